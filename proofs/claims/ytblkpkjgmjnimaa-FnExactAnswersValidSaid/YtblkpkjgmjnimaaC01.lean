/- Texts laid together. -/
import Derived.Test.YtblkpkjgmjnimaaProg
import Derived.WalkKit
import Derived.WalkSpells
import Derived.Lib.Hide
import Derived.Deep.DeepCutAuto
import Derived.OwnWalk
import Derived.Deep.QuietTactic
import Derived.BigQuiet
import Derived.Lib.TrailingZeros
import Derived.Lib.BitFns
import Derived.Lib.ItoaNum
/- Small facts of blocks; l6In. -/
namespace Go.Proofs.Ytblkpkjgmjnimaa
open Go.RowKit
set_option linter.unusedVariables false

/-- Cells and marks of elder blocks, behind a call that only makes memory. -/
theorem bcell {W w1 : World} (hb : Below W.heap.size W w1) : (∀ b o, b < W.heap.size → w1.cell? ⟨b, o, none⟩ = W.cell? ⟨b, o, none⟩) ∧ (∀ b o, b < W.heap.size → w1.frozen? ⟨b, o, none⟩ = W.frozen? ⟨b, o, none⟩) :=
  ⟨fun b o h => hb.cell (p := ⟨b, o, none⟩) h, fun b o h => hb.frozen (p := ⟨b, o, none⟩) h⟩

/-- A block of three cells, known whole. -/
theorem blk3 {w : World} {b : Nat} {x y z : Value} {t : TypeId} (h : w.heap[b]? = some (.cells #[x, y, z] t (0, 0))) :
    w.cell? ⟨b, 0, none⟩ = some x ∧ w.cell? ⟨b, 1, none⟩ = some y ∧ w.cell? ⟨b, 2, none⟩ = some z ∧ w.frozen? ⟨b, 0, none⟩ = false ∧ w.frozen? ⟨b, 1, none⟩ = false ∧ w.frozen? ⟨b, 2, none⟩ = false := by
  simp [World.cell?, World.frozen?, h]

/-- .. behind a store. -/
theorem blk3_set {w : World} {b : Nat} {x y z : Value} {t : TypeId} (h : w.heap[b]? = some (.cells #[x, y, z] t (0, 0))) (u : Value) :
    (w.setCell ⟨b, 0, none⟩ u).heap[b]? = some (.cells #[u, y, z] t (0, 0)) ∧ (w.setCell ⟨b, 1, none⟩ u).heap[b]? = some (.cells #[x, u, z] t (0, 0)) ∧ (w.setCell ⟨b, 2, none⟩ u).heap[b]? = some (.cells #[x, y, u] t (0, 0)) := by
  simp [World.setCell, Array.getElem?_modify, h]

theorem heap_alloc_at (w : World) (o : Obj) (n : Nat) (h : n = w.heap.size) : (w.alloc o).heap[n]? = some o := by subst h; exact heap_alloc_new w o

def inB (n lo hi : Int) : Bool := decide (lo ≤ n ∧ n ≤ hi)

theorem inB_t {n lo hi : Int} (h1 : lo ≤ n) (h2 : n ≤ hi) : inB n lo hi = true := decide_eq_true ⟨h1, h2⟩

theorem inB_f1 {n lo hi : Int} (h1 : ¬ lo ≤ n) : inB n lo hi = false := decide_eq_false (fun h => h1 h.1)

theorem inB_f2 {n lo hi : Int} (h2 : ¬ n ≤ hi) : inB n lo hi = false := decide_eq_false (fun h => h2 h.2)

theorem in_any (n lo hi : Int) (w : World) :
    Calls Try.prog 18 #[.int .i64 n, .int .i64 lo, .int .i64 hi] w fun e w' => e = .returned (.bool (inB n lo hi)) ∧ w = w' := by
  by_cases h1 : lo ≤ n
  · by_cases h2 : n ≤ hi
    · rw [inB_t h1 h2]
      go_enter Try.func18, Try.ntmps18
      go_wp2
      go_ret
      exact ⟨rfl, rfl⟩
    · rw [inB_f2 h2]
      go_enter Try.func18, Try.ntmps18
      go_wp2
      go_ret
      exact ⟨rfl, rfl⟩
  · rw [inB_f1 h1]
    go_enter Try.func18, Try.ntmps18
    go_wp2
    go_ret
    exact ⟨rfl, rfl⟩

theorem ret_bool {a b : Bool} (h : a = b) : Ending.returned (.bool a) = .returned (.bool b) := by rw [h]
/-- A block of two cells, known whole. -/
theorem blk2 {w : World} {b : Nat} {x y : Value} {t : TypeId} (h : w.heap[b]? = some (.cells #[x, y] t (0, 0))) :
    w.cell? ⟨b, 0, none⟩ = some x ∧ w.cell? ⟨b, 1, none⟩ = some y ∧ w.frozen? ⟨b, 0, none⟩ = false ∧ w.frozen? ⟨b, 1, none⟩ = false := by
  simp [World.cell?, World.frozen?, h]
end Go.Proofs.Ytblkpkjgmjnimaa

/- Small facts of slices and worlds. -/
namespace Go.Proofs.Ytblkpkjgmjnimaa
open Go.RowKit
set_option linter.unusedVariables false

theorem lt_of_heap {w : World} {b : Nat} {o : Obj} (h : w.heap[b]? = some o) : b < w.heap.size := by
  have := Array.getElem?_eq_some_iff.1 h
  exact this.1

theorem cell_of_cells {w : World} {b i : Nat} {cur : Array Value} {t : TypeId} (h : w.heap[b]? = some (.cells cur t (0, 0))) : w.cell? ⟨b, i, none⟩ = cur[i]? := by
  simp [World.cell?, h]

theorem bstep {w w0 w1 : World} (D : Below w.heap.size w w0) (h : Below w0.heap.size w0 w1) : Below w.heap.size w w1 := D.trans (h.mono D.size)

theorem bblk {w0 w1 : World} {b : Nat} {o : Obj} (h : Below w0.heap.size w0 w1) (s : b + 1 ≤ w0.heap.size) (A : w0.heap[b]? = some o) : w1.heap[b]? = some o := (h.block b s).trans A

theorem bdrewN {B : Nat} {a w : World} (h : Below B a w) (n : Nat) : Below B a (w.drewN n) := ⟨h.os, h.tape, h.output, h.size, h.block⟩

theorem up_to {P : Nat → Prop} {k : Nat} (h : ∀ j, j < k → P j) (hk : P k) : ∀ j, j < k + 1 → P j := fun j hj => by
  rcases Nat.lt_or_ge j k with h' | h'
  · exact h j h'
  · obtain rfl : j = k := by omega
    exact hk
end Go.Proofs.Ytblkpkjgmjnimaa

/- Plain facts on lists of ids: sorted, put into, searched. -/
namespace Go.Proofs.Ytblkpkjgmjnimaa
set_option linter.unusedVariables false

/-- An id. -/
abbrev Pid : Type := Int × Int
def nop : Pid := (0, 0)
/-- What a valid id is. -/
def idB (r n : Int) : Bool := decide (0 ≤ r ∧ r ≤ 4 ∧ 1 ≤ n ∧ n ≤ 50)
/-- Which id is ahead. -/
def ltB (r n r' n' : Int) : Bool := decide (r < r' ∨ r = r' ∧ n < n')
def okP (a : Pid) : Bool := idB a.1 a.2
def ltP (a b : Pid) : Bool := ltB a.1 a.2 b.1 b.2
theorem ltP_iff {a b : Pid} : ltP a b = true ↔ (a.1 < b.1 ∨ a.1 = b.1 ∧ a.2 < b.2) := by simp [ltP, ltB]
theorem ltP_not {a b : Pid} : ltP a b = false ↔ ¬ (a.1 < b.1 ∨ a.1 = b.1 ∧ a.2 < b.2) := by rw [← ltP_iff]; simp
theorem ltP_tri {a b : Pid} (h1 : ltP a b = false) (h2 : ltP b a = false) : a = b := by
  rw [ltP_not] at h1 h2
  obtain ⟨x, y⟩ := a; obtain ⟨z, t⟩ := b
  simp at h1 h2 ⊢; omega
theorem ltP_irr (a : Pid) : ltP a a = false := by rw [ltP_not]; omega
theorem ltP_trans {a b c : Pid} (h1 : ltP a b = true) (h2 : ltP b c = true) : ltP a c = true := by
  rw [ltP_iff] at *; omega
theorem ltP_asym {a b : Pid} (h1 : ltP a b = true) : ltP b a = false := by
  rw [ltP_iff] at h1; rw [ltP_not]; omega

/-- An id is put ahead of the first one that it is ahead of. -/
def insB (a : Pid) : List Pid → List Pid
  | [] => [a]
  | b :: r => if ltP a b then a :: b :: r else b :: insB a r
def putF (d : Bool) (a : Pid) (L : List Pid) : List Pid := if d then L else insB a L
def hasP (L : List Pid) (a : Pid) : Bool := decide (a ∈ L)
def putP (L : List Pid) (a : Pid) : List Pid := putF (hasP L a) a L
def sortP (L : List Pid) : List Pid := L.foldl putP []
def Asc (L : List Pid) : Prop := L.Pairwise fun a b => ltP a b = true

theorem putF_t (a : Pid) (L : List Pid) : putF true a L = L := rfl
theorem putF_hit {a x : Pid} {r : List Pid} (h : ltP a x = true) : putF false a (x :: r) = a :: x :: putF true a r := by
  unfold putF insB; simp [h]
theorem putF_miss {a x : Pid} {r : List Pid} (h : ltP a x = false) : putF false a (x :: r) = x :: putF false a r := by
  unfold putF; simp [insB, h]
theorem putF_end (a : Pid) : putF false a [] = [a] := rfl

theorem mem_insB (a x : Pid) : ∀ L : List Pid, x ∈ insB a L ↔ x = a ∨ x ∈ L
  | [] => by simp [insB]
  | b :: r => by
    unfold insB; split
    · simp
    · rw [List.mem_cons, mem_insB a x r, List.mem_cons]
      constructor
      · rintro (h | h | h)
        · exact .inr (.inl h)
        · exact .inl h
        · exact .inr (.inr h)
      · rintro (h | h | h)
        · exact .inr (.inl h)
        · exact .inl h
        · exact .inr (.inr h)
theorem mem_putP (L : List Pid) (a x : Pid) : x ∈ putP L a ↔ x = a ∨ x ∈ L := by
  unfold putP putF hasP
  by_cases h : a ∈ L
  · simp [h]; intro e; subst e; exact h
  · simp [h, mem_insB]
theorem len_insB (a : Pid) : ∀ L : List Pid, (insB a L).length = L.length + 1
  | [] => rfl
  | b :: r => by
    unfold insB; split
    · rfl
    · rw [List.length_cons, len_insB a r, List.length_cons]
theorem len_putP (L : List Pid) (a : Pid) : L.length ≤ (putP L a).length ∧ (putP L a).length ≤ L.length + 1 := by
  unfold putP putF; split
  · omega
  · rw [len_insB]; omega
theorem len_putP_in {L : List Pid} {a : Pid} (h : a ∈ L) : putP L a = L := by unfold putP putF hasP; simp [h]
theorem putP_out {L : List Pid} {a : Pid} (h : ¬ a ∈ L) : putP L a = insB a L := by unfold putP putF hasP; simp [h]

theorem asc_insB {a : Pid} : ∀ {L : List Pid}, Asc L → ¬ a ∈ L → Asc (insB a L)
  | [], _, _ => by simp [insB, Asc]
  | b :: r, h, hn => by
    have h' := List.pairwise_cons.1 h
    unfold insB; split
    · rename_i hl
      refine List.pairwise_cons.2 ⟨fun x hx => ?_, h⟩
      rcases List.mem_cons.1 hx with rfl | hx
      · exact hl
      · exact ltP_trans hl (h'.1 x hx)
    · rename_i hl
      have hl' : ltP a b = false := by simpa using hl
      refine List.pairwise_cons.2 ⟨fun x hx => ?_, asc_insB h'.2 (fun e => hn (List.mem_cons_of_mem _ e))⟩
      rcases (mem_insB a x r).1 hx with rfl | hx
      · cases hh : ltP b x with
        | true => rfl
        | false => exact absurd (ltP_tri hl' hh) (fun e => hn (by rw [e]; exact List.mem_cons_self))
      · exact h'.1 x hx
theorem asc_putP {L : List Pid} {a : Pid} (h : Asc L) : Asc (putP L a) := by
  by_cases hm : a ∈ L
  · rw [len_putP_in hm]; exact h
  · rw [putP_out hm]; exact asc_insB h hm

theorem foldl_mem : ∀ (L : List Pid) (A : List Pid) (x : Pid), x ∈ L.foldl putP A ↔ x ∈ A ∨ x ∈ L
  | [], A, x => by simp
  | a :: r, A, x => by
    rw [List.foldl_cons, foldl_mem r, mem_putP, List.mem_cons]
    constructor
    · rintro ((h | h) | h)
      · exact .inr (.inl h)
      · exact .inl h
      · exact .inr (.inr h)
    · rintro (h | h | h)
      · exact .inl (.inr h)
      · exact .inl (.inl h)
      · exact .inr h
theorem foldl_asc : ∀ (L : List Pid) {A : List Pid}, Asc A → Asc (L.foldl putP A)
  | [], _, h => h
  | a :: r, _, h => foldl_asc r (asc_putP h)
theorem foldl_len : ∀ (L : List Pid) (A : List Pid), A.length ≤ (L.foldl putP A).length ∧ (L.foldl putP A).length ≤ A.length + L.length
  | [], A => by simp
  | a :: r, A => by
    have h := foldl_len r (putP A a)
    have g := len_putP A a
    rw [List.foldl_cons, List.length_cons]; omega
theorem asc_nil : Asc [] := List.Pairwise.nil
theorem sortP_asc (L : List Pid) : Asc (sortP L) := foldl_asc L asc_nil
theorem sortP_mem (L : List Pid) (x : Pid) : x ∈ sortP L ↔ x ∈ L := by
  unfold sortP; rw [foldl_mem]; simp
theorem sortP_len (L : List Pid) : (sortP L).length ≤ L.length := by
  have := (foldl_len L []).2; unfold sortP; simpa using this

/-- Ascending lists of the same ids are equal. -/
theorem asc_ext : ∀ {A B : List Pid}, Asc A → Asc B → (∀ x, x ∈ A ↔ x ∈ B) → A = B
  | [], [], _, _, _ => rfl
  | [], b :: s, _, _, h => absurd ((h b).2 List.mem_cons_self) (by simp)
  | a :: r, [], _, _, h => absurd ((h a).1 List.mem_cons_self) (by simp)
  | a :: r, b :: s, hA, hB, h => by
    have hA' := List.pairwise_cons.1 hA
    have hB' := List.pairwise_cons.1 hB
    have e : a = b := by
      rcases List.mem_cons.1 ((h a).1 List.mem_cons_self) with e | ha
      · exact e
      · rcases List.mem_cons.1 ((h b).2 List.mem_cons_self) with e | hb
        · exact e.symm
        · have h1 := hB'.1 a ha
          have h2 := hA'.1 b hb
          rw [ltP_asym h1] at h2; cases h2
    subst e
    have nr : ¬ a ∈ r := fun hx => by have := hA'.1 a hx; rw [ltP_irr] at this; cases this
    have ns : ¬ a ∈ s := fun hx => by have := hB'.1 a hx; rw [ltP_irr] at this; cases this
    rw [asc_ext hA'.2 hB'.2 (fun x => ?_)]
    constructor
    · intro hx
      rcases List.mem_cons.1 ((h x).1 (List.mem_cons_of_mem _ hx)) with e | hx'
      · subst e; exact absurd hx nr
      · exact hx'
    · intro hx
      rcases List.mem_cons.1 ((h x).2 (List.mem_cons_of_mem _ hx)) with e | hx'
      · subst e; exact absurd hx ns
      · exact hx'

theorem sortP_self {L : List Pid} (h : Asc L) : sortP L = L := asc_ext (sortP_asc L) h (sortP_mem L)
theorem sortP_rev (L : List Pid) : sortP L.reverse = sortP L :=
  asc_ext (sortP_asc _) (sortP_asc _) (fun x => by rw [sortP_mem, sortP_mem, List.mem_reverse])

/-- What IdsSort answers. -/
def sortR (L : List Pid) : List Pid × Bool := if L.all okP = true ∧ (sortP L).length ≤ 12 then (sortP L, true) else ([], false)
theorem sortR_t {L : List Pid} (h1 : L.all okP = true) (h2 : (sortP L).length ≤ 12) : sortR L = (sortP L, true) := if_pos ⟨h1, h2⟩
theorem sortR_bad {L : List Pid} {k : Nat} (hk : k < L.length) (h : okP (L.getD k nop) = false) : sortR L = ([], false) := by
  refine if_neg fun hh => ?_
  have := List.all_eq_true.1 hh.1 L[k] (List.getElem_mem _)
  rw [List.getD_eq_getElem?_getD, List.getElem?_eq_getElem hk] at h
  simp only [Option.getD_some] at h
  rw [h] at this; cases this
theorem sortR_long {L : List Pid} (h : ¬ (sortP L).length ≤ 12) : sortR L = ([], false) := if_neg fun hh => h hh.2
theorem take_next {L : List Pid} {k : Nat} (hk : k < L.length) : L.take (k + 1) = L.take k ++ [L.getD k nop] := by
  rw [List.take_succ_eq_append_getElem hk, List.getD_eq_getElem?_getD, List.getElem?_eq_getElem hk]; rfl
theorem drop_next {L : List Pid} {k : Nat} (hk : k < L.length) : L.drop k = L.getD k nop :: L.drop (k + 1) := by
  rw [List.drop_eq_getElem_cons hk, List.getD_eq_getElem?_getD, List.getElem?_eq_getElem hk]; rfl
theorem sortP_next {L : List Pid} {k : Nat} (hk : k < L.length) : sortP (L.take (k + 1)) = putP (sortP (L.take k)) (L.getD k nop) := by
  rw [take_next hk]; unfold sortP; rw [List.foldl_append]; rfl
/-- Too many already. -/
theorem sortR_full {L : List Pid} {k : Nat} (hk : k < L.length) (h : (sortP (L.take k)).length = 12) (hn : ¬ L.getD k nop ∈ sortP (L.take k)) : sortR L = ([], false) := by
  refine sortR_long fun hle => ?_
  have e : sortP L = (L.drop (k + 1)).foldl putP (sortP (L.take (k + 1))) := by
    unfold sortP; rw [← List.foldl_append, List.take_append_drop]
  have h1 := (foldl_len (L.drop (k + 1)) (sortP (L.take (k + 1)))).1
  rw [← e, sortP_next hk, putP_out hn, len_insB, h] at h1
  omega
theorem sortR_len (L : List Pid) : (sortR L).1.length ≤ 12 := by
  unfold sortR; split
  · rename_i h; exact h.2
  · simp
theorem sortR_asc (L : List Pid) : Asc (sortR L).1 := by
  unfold sortR; split
  · exact sortP_asc L
  · exact asc_nil

/-- The place of an id in an ascending list. -/
def posP (L : List Pid) (a : Pid) : Nat := L.countP fun x => ltP x a
theorem posP_le (L : List Pid) (a : Pid) : posP L a ≤ L.length := List.countP_le_length
theorem posP_cons_t {b a : Pid} {r : List Pid} (h : ltP b a = true) : posP (b :: r) a = posP r a + 1 := by
  unfold posP; exact List.countP_cons_of_pos (p := fun x => ltP x a) h
theorem posP_cons_f {b a : Pid} {r : List Pid} (hA : Asc (b :: r)) (h : ltP b a = false) : posP (b :: r) a = 0 := by
  unfold posP
  rw [List.countP_eq_zero]
  intro x hx
  have hA' := List.pairwise_cons.1 hA
  rcases List.mem_cons.1 hx with rfl | hx
  · rw [h]; simp
  · intro hl
    rw [ltP_trans (hA'.1 x hx) hl] at h; cases h
theorem posP_ins : ∀ {L : List Pid} {a : Pid}, Asc L → ¬ a ∈ L → insB a L = L.take (posP L a) ++ a :: L.drop (posP L a)
  | [], a, _, _ => rfl
  | b :: r, a, hA, hn => by
    have hA' := List.pairwise_cons.1 hA
    by_cases h : ltP b a = true
    · rw [posP_cons_t h]
      unfold insB
      rw [if_neg (by rw [ltP_asym h]; simp), posP_ins hA'.2 (fun e => hn (List.mem_cons_of_mem _ e))]
      rfl
    · have h' : ltP b a = false := by simpa using h
      rw [posP_cons_f hA h']
      unfold insB
      have hl : ltP a b = true := by
        cases hh : ltP a b with
        | true => rfl
        | false => exact absurd (ltP_tri hh h') (fun e => hn (by rw [e]; exact List.mem_cons_self))
      rw [if_pos hl]; rfl
/-- It is there just where it is found. -/
theorem posP_mem : ∀ {L : List Pid} {a : Pid}, Asc L → (a ∈ L ↔ posP L a < L.length ∧ L.getD (posP L a) nop = a)
  | [], a, _ => by simp [posP]
  | b :: r, a, hA => by
    have hA' := List.pairwise_cons.1 hA
    by_cases h : ltP b a = true
    · rw [posP_cons_t h, List.mem_cons, posP_mem hA'.2]
      have hne : a ≠ b := fun e => by rw [e, ltP_irr] at h; cases h
      simp [hne]
    · have h' : ltP b a = false := by simpa using h
      rw [posP_cons_f hA h', List.mem_cons]
      constructor
      · rintro (e | hm)
        · exact ⟨by simp, by simp [e]⟩
        · rw [hA'.1 a hm] at h'; cases h'
      · rintro ⟨_, e⟩
        exact .inl (by simpa using e.symm)
/-- Ahead of the place all are ahead, behind it none is. -/
theorem asc_lt {L : List Pid} (hA : Asc L) {i j : Nat} (hij : i < j) (hj : j < L.length) : ltP (L.getD i nop) (L.getD j nop) = true := by
  have := List.pairwise_iff_getElem.1 hA i j (by omega) hj hij
  rw [List.getD_eq_getElem?_getD, List.getD_eq_getElem?_getD, List.getElem?_eq_getElem (by omega), List.getElem?_eq_getElem hj]
  exact this
theorem posP_of {L : List Pid} {a : Pid} {i : Nat} (hi : i ≤ L.length) (h1 : ∀ t, t < i → ltP (L.getD t nop) a = true) (h2 : ∀ t, i ≤ t → t < L.length → ltP (L.getD t nop) a = false) : posP L a = i := by
  induction L generalizing i with
  | nil => simp at hi; subst hi; rfl
  | cons b r ih =>
    cases i with
    | zero =>
      unfold posP
      rw [List.countP_eq_zero]
      intro x hx
      obtain ⟨t, ht, e⟩ := List.getElem_of_mem hx
      have := h2 t (Nat.zero_le _) ht
      rw [List.getD_eq_getElem?_getD, List.getElem?_eq_getElem ht, Option.getD_some, e] at this
      rw [this]; simp
    | succ i =>
      have h0 : ltP b a = true := h1 0 (Nat.succ_pos _)
      rw [posP_cons_t h0, ih (i := i) (by simpa using hi) (fun t ht => h1 (t + 1) (by omega)) (fun t h3 h4 => h2 (t + 1) (by omega) (by simpa using h4))]
end Go.Proofs.Ytblkpkjgmjnimaa

/- Slices of ids: read, owned. -/
namespace Go.Proofs.Ytblkpkjgmjnimaa
open Go.RowKit
set_option linter.unusedVariables false

def idv (c : Pid) : List Value := [.int .i64 c.1, .int .i64 c.2]
/-- Ids as cells. -/
def flatP : List Pid → List Value
  | [] => []
  | c :: r => idv c ++ flatP r

theorem flatP_len : ∀ C : List Pid, (flatP C).length = C.length * 2
  | [] => rfl
  | c :: r => by simp [flatP, idv, flatP_len r]; omega
theorem flatP_app : ∀ (A B : List Pid), flatP (A ++ B) = flatP A ++ flatP B
  | [], B => rfl
  | c :: r, B => by simp [flatP, flatP_app r B]
theorem flatP_get : ∀ (C : List Pid) (i : Nat), i < C.length → (flatP C)[i * 2]? = some (.int .i64 (C.getD i nop).1) ∧ (flatP C)[i * 2 + 1]? = some (.int .i64 (C.getD i nop).2)
  | [], i, h => absurd h (by simp)
  | c :: r, 0, h => by simp [flatP, idv]
  | c :: r, i + 1, h => by
    have ih := flatP_get r i (by simpa using h)
    have e : (i + 1) * 2 = i * 2 + 2 := by omega
    have g : ∀ n, (flatP (c :: r))[n + 2]? = (flatP r)[n]? := fun n => by simp [flatP, idv]
    rw [e, g, show i * 2 + 2 + 1 = (i * 2 + 1) + 2 by omega, g]
    simpa using ih
theorem flatP_one (C : List Pid) : ∀ u ∈ flatP C, u.oneCell' = true := by
  induction C with
  | nil => intro u hu; simp [flatP] at hu
  | cons c r ih =>
    intro u hu
    rw [flatP, List.mem_append] at hu
    rcases hu with hu | hu
    · simp [idv] at hu; rcases hu with rfl | rfl <;> rfl
    · exact ih u hu

/-- A slice of ids, readable. -/
def Ids (w : World) (v : Value) (C : List Pid) : Prop :=
  ∃ a cap, v = .slice a C.length cap ∧ C.length ≤ cap ∧ C.length ≤ 2000000 ∧ (C.length = 0 ∨ ∃ b off, a = some ⟨b, off, none⟩ ∧ b < w.heap.size ∧ ∀ i, i < C.length →
    w.cell? ⟨b, off + i * 2, none⟩ = some (.int .i64 (C.getD i nop).1) ∧ w.cell? ⟨b, off + i * 2 + 1, none⟩ = some (.int .i64 (C.getD i nop).2))

/-- .. in a block of its own, from its head. -/
def OwnP (w : World) (b : Nat) (v : Value) (C : List Pid) : Prop :=
  ∃ cap cur t, v = .slice (some ⟨b, 0, none⟩) C.length cap ∧ w.heap[b]? = some (.cells cur t (0, 0)) ∧ C.length ≤ cap ∧ C.length ≤ 2000000 ∧ ∀ i, i < C.length →
    cur[i * 2]? = some (.int .i64 (C.getD i nop).1) ∧ cur[i * 2 + 1]? = some (.int .i64 (C.getD i nop).2)

theorem OwnP.lt {w : World} {b : Nat} {v : Value} {C : List Pid} (h : OwnP w b v C) : b < w.heap.size := by
  obtain ⟨cap, cur, t, rfl, hb, _⟩ := h
  exact lt_of_heap hb
theorem OwnP.same {w w' : World} {b : Nat} {v : Value} {C : List Pid} (h : OwnP w b v C) (hb : w'.heap[b]? = w.heap[b]?) : OwnP w' b v C := by
  obtain ⟨cap, cur, t, e, h1, h2, h3, h4⟩ := h
  exact ⟨cap, cur, t, e, hb.trans h1, h2, h3, h4⟩
theorem OwnP.up {w w' : World} {b B : Nat} {v : Value} {C : List Pid} (h : OwnP w b v C) (hb : Below B w w') (hB : b < B) : OwnP w' b v C := h.same (hb.block b hB)
theorem OwnP.read {w : World} {b : Nat} {v : Value} {C : List Pid} (h : OwnP w b v C) : Ids w v C := by
  obtain ⟨cap, cur, t, rfl, h1, h2, h3, h4⟩ := h
  refine ⟨_, cap, rfl, h2, h3, ?_⟩
  by_cases hz : C.length = 0
  · exact .inl hz
  · refine .inr ⟨b, 0, rfl, lt_of_heap h1, fun i hi => ?_⟩
    rw [Nat.zero_add, cell_of_cells h1, cell_of_cells h1]
    exact h4 i hi
theorem Ids.up {w w' : World} {B : Nat} {v : Value} {C : List Pid} (h : Ids w v C) (hb : Below B w w') (hB : w.heap.size ≤ B) : Ids w' v C := by
  obtain ⟨a, cap, rfl, h1, h2, h3⟩ := h
  refine ⟨a, cap, rfl, h1, h2, ?_⟩
  rcases h3 with h3 | ⟨b, off, rfl, h4, h5⟩
  · exact .inl h3
  · have hc : ∀ o, w'.cell? ⟨b, o, none⟩ = w.cell? ⟨b, o, none⟩ := fun o => hb.cell (p := ⟨b, o, none⟩) (Nat.lt_of_lt_of_le h4 hB)
    exact .inr ⟨b, off, rfl, Nat.lt_of_lt_of_le h4 hb.size, fun i hi => by rw [hc, hc]; exact h5 i hi⟩
theorem OwnP.of_row {w : World} {base : Nat} {e : TypeId} {v : Value} {C : List Pid} {n : Nat} (h : w.ownsRow base e 2 v n (flatP C)) (hn : n = C.length) (hl : C.length ≤ 2000000) (hv : v ≠ .slice none 0 0) : ∃ b, base ≤ b ∧ OwnP w b v C := by
  subst hn
  rcases h.2 with ⟨rfl, _⟩ | ⟨g, cap, cur, rfl, h1, h2, h3, h4, h5, h6⟩
  · exact absurd rfl hv
  · refine ⟨g, h1, cap, cur, e, rfl, h2, h3, hl, fun i hi => ?_⟩
    have hk : ∀ j, j < C.length * 2 → cur[j]? = (flatP C)[j]? := fun j hj => by
      rw [← h6, List.getElem?_take, if_pos hj]; simp
    rw [hk _ (by omega), hk _ (by omega)]
    exact flatP_get C i hi
theorem OwnP.shape {w : World} {b : Nat} {u : Value} {C : List Pid} (h : OwnP w b u C) : ∃ cap, u = .slice (some ⟨b, 0, none⟩) C.length cap ∧ C.length ≤ cap := by
  obtain ⟨cap, cur, t, e, h1, h2, _⟩ := h
  exact ⟨cap, e, h2⟩
theorem OwnP.cell {w : World} {b : Nat} {u : Value} {C : List Pid} (h : OwnP w b u C) (i : Nat) (hi : i < C.length) :
    w.cell? ⟨b, i * 2, none⟩ = some (.int .i64 (C.getD i nop).1) ∧ w.cell? ⟨b, i * 2 + 1, none⟩ = some (.int .i64 (C.getD i nop).2) := by
  obtain ⟨cap, cur, t, rfl, h1, h2, h3, h4⟩ := h
  rw [cell_of_cells h1, cell_of_cells h1]
  exact h4 i hi
theorem OwnP.free {w : World} {b : Nat} {u : Value} {C : List Pid} (h : OwnP w b u C) (m : Nat) : w.frozen? ⟨b, m, none⟩ = false := by
  obtain ⟨cap, cur, t, e, h1, _⟩ := h
  simp [World.frozen?, h1]

/-- An id stored at place k. -/
theorem OwnP.set {w : World} {b : Nat} {u : Value} {C : List Pid} (h : OwnP w b u C) (k : Nat) (hk : k < C.length) (c : Pid) :
    OwnP ((w.setCell ⟨b, k * 2, none⟩ (.int .i64 c.1)).setCell ⟨b, k * 2 + 1, none⟩ (.int .i64 c.2)) b u (C.set k c) := by
  obtain ⟨cap, cur, t, rfl, h1, h2, h3, h4⟩ := h
  have e1 := heap_setCell_same w b (k * 2) cur t (.int .i64 c.1) h1
  have e2 := heap_setCell_same _ b (k * 2 + 1) _ t (.int .i64 c.2) e1
  have hs : k * 2 + 1 < cur.size := by
    have := (h4 k hk).2
    rcases Nat.lt_or_ge (k * 2 + 1) cur.size with h | h
    · exact h
    · rw [Array.getElem?_eq_none h] at this; exact absurd this (by simp)
  refine ⟨cap, _, t, by simp, e2, by simpa using h2, by simpa using h3, fun i hi => ?_⟩
  rw [List.length_set] at hi
  by_cases e : i = k
  · subst e
    simp [hs, show i * 2 < cur.size by omega, List.getD_eq_getElem?_getD, List.getElem?_set_self hk]
  · have hg : (C.set k c).getD i nop = C.getD i nop := by
      rw [List.getD_eq_getElem?_getD, List.getElem?_set_ne (fun x => e x.symm), ← List.getD_eq_getElem?_getD]
    rw [hg]
    have := h4 i hi
    simp only [Array.getElem?_setIfInBounds]
    rw [if_neg (by omega), if_neg (by omega), if_neg (by omega), if_neg (by omega)]
    exact this
end Go.Proofs.Ytblkpkjgmjnimaa

/- Plain facts: groups found by a stack. -/
namespace Go.Proofs.Ytblkpkjgmjnimaa
set_option linter.unusedVariables false

/-- No step or more. -/
inductive Rt {α : Type} (E : α → α → Prop) : α → α → Prop
  | refl (a : α) : Rt E a a
  | head {a b c : α} (h : E a b) (t : Rt E b c) : Rt E a c
/-- One step or more. -/
def Rp {α : Type} (E : α → α → Prop) (a c : α) : Prop := ∃ b, E a b ∧ Rt E b c
theorem Rt.trans {α : Type} {E : α → α → Prop} {a b c : α} (h : Rt E a b) (g : Rt E b c) : Rt E a c := by
  induction h with
  | refl => exact g
  | head e _ ih => exact .head e (ih g)
theorem Rt.one {α : Type} {E : α → α → Prop} {a b : α} (h : E a b) : Rt E a b := .head h (.refl b)
theorem Rp.rt {α : Type} {E : α → α → Prop} {a b : α} (h : Rp E a b) : Rt E a b := by obtain ⟨c, h1, h2⟩ := h; exact .head h1 h2
theorem Rt.cases {α : Type} {E : α → α → Prop} {a b : α} (h : Rt E a b) : a = b ∨ Rp E a b := by
  cases h with
  | refl => exact .inl rfl
  | head e t => exact .inr ⟨_, e, t⟩
theorem Rp.one {α : Type} {E : α → α → Prop} {a b : α} (h : E a b) : Rp E a b := ⟨b, h, .refl b⟩
theorem Rt.rp {α : Type} {E : α → α → Prop} {a b c : α} (h : Rt E a b) (g : Rp E b c) : Rp E a c := by
  cases h with
  | refl => exact g
  | head e t => exact ⟨_, e, t.trans g.rt⟩
theorem Rp.rt_r {α : Type} {E : α → α → Prop} {a b c : α} (h : Rp E a b) (g : Rt E b c) : Rp E a c := by
  obtain ⟨d, h1, h2⟩ := h; exact ⟨d, h1, h2.trans g⟩
/-- A closed set is not left. -/
theorem Rt.closed {α : Type} {E : α → α → Prop} {P : α → Prop} (hP : ∀ i, P i → ∀ j, E i j → P j) {a b : α} (h : Rt E a b) (ha : P a) : P b := by
  induction h with
  | refl => exact ha
  | head e _ ih => exact ih (hP _ ha _ e)
/-- Each reaches the other one. -/
def Sc {α : Type} (E : α → α → Prop) (a b : α) : Prop := Rt E a b ∧ Rt E b a
theorem Sc.refl {α : Type} {E : α → α → Prop} (a : α) : Sc E a a := ⟨.refl a, .refl a⟩
theorem Sc.symm {α : Type} {E : α → α → Prop} {a b : α} (h : Sc E a b) : Sc E b a := ⟨h.2, h.1⟩
theorem Sc.trans {α : Type} {E : α → α → Prop} {a b c : α} (h : Sc E a b) (g : Sc E b c) : Sc E a c := ⟨h.1.trans g.1, g.2.trans h.2⟩

/-- What the walk knows: how many were met, as the how many-th, which ones wait, and the group of each one. -/
structure TS where
  many : Nat
  met : Nat → Nat
  stack : List Nat
  found : Nat → Option Nat

/-- The walk's invariant: G are those whose visit is under way. -/
structure TI (E : Nat → Nat → Prop) (n : Nat) (s : TS) (G : List Nat) : Prop where
  le : ∀ i, s.met i ≤ s.many
  lt : ∀ i, s.met i ≠ 0 → i < n
  fm : ∀ i b, s.found i = some b → s.met i ≠ 0
  st : ∀ i, i ∈ s.stack ↔ (s.met i ≠ 0 ∧ s.found i = none)
  up : s.stack.Pairwise fun a b => s.met a < s.met b
  rc : s.stack.Pairwise fun a b => Rt E a b
  gr : ∀ y ∈ s.stack, ∃ g ∈ G, g ∈ s.stack ∧ s.met g ≤ s.met y ∧ Rt E y g
  fc : ∀ i b, s.found i = some b → ∀ j, E i j → ∃ c, s.found j = some c
  sc : ∀ i j b c, s.found i = some b → s.found j = some c → (b = c ↔ Sc E i j)
  bl : ∀ i, s.met i ≠ 0 → ¬ i ∈ G → ∀ j, E i j → s.met j ≠ 0

/-- One state is behind another one. -/
structure TX (s t : TS) : Prop where
  many : s.many ≤ t.many
  met : ∀ i, s.met i ≠ 0 → t.met i = s.met i
  new : ∀ i, s.met i = 0 → t.met i ≠ 0 → s.many < t.met i
  found : ∀ i b, s.found i = some b → t.found i = some b
theorem TX.refl (s : TS) : TX s s := ⟨Nat.le_refl _, fun _ _ => rfl, fun _ h g => absurd h g, fun _ _ h => h⟩
theorem TX.trans {s t u : TS} (h : TX s t) (g : TX t u) : TX s u := by
  refine ⟨Nat.le_trans h.many g.many, fun i hi => ?_, fun i h0 h1 => ?_, fun i b hb => g.found i b (h.found i b hb)⟩
  · rw [g.met i (by rw [h.met i hi]; exact hi), h.met i hi]
  · by_cases e : t.met i = 0
    · exact Nat.lt_of_le_of_lt h.many (g.new i e h1)
    · rw [g.met i e]; exact h.new i h0 e

/-- What a visit leaves. -/
structure TP (E : Nat → Nat → Prop) (n : Nat) (s : TS) (G : List Nat) (x : Nat) (t : TS) (r : Nat) : Prop where
  ti : TI E n t G
  tx : TX s t
  mx : t.met x ≠ 0
  st : ∃ T, t.stack = s.stack ++ T ∧ ∀ z ∈ T, ∀ y ∈ s.stack, E z y → r ≤ s.met y
  at_ : s.many < r ∨ ∃ y ∈ s.stack, r = s.met y ∧ Rt E x y

/-- A node is met. -/
def TS.enter (s : TS) (x : Nat) : TS := ⟨s.many + 1, fun i => if i = x then s.many + 1 else s.met i, s.stack ++ [x], s.found⟩
theorem TI.enter {E : Nat → Nat → Prop} {n : Nat} {s : TS} {G : List Nat} (h : TI E n s G) {x : Nat} (hx : x < n) (h0 : s.met x = 0) (hG : ∀ g ∈ G, Rt E g x) :
    TI E n (s.enter x) (x :: G) ∧ TX s (s.enter x) := by
  have hne : ∀ i, s.met i ≠ 0 → i ≠ x := fun i hi e => hi (by rw [e]; exact h0)
  have hm : ∀ i, i ≠ x → (s.enter x).met i = s.met i := fun i hi => if_neg hi
  have hmx : (s.enter x).met x = s.many + 1 := if_pos rfl
  have hsx : ∀ y ∈ s.stack, s.met y ≠ 0 := fun y hy => ((h.st y).1 hy).1
  refine ⟨⟨fun i => ?_, fun i hi => ?_, fun i b hb => ?_, fun i => ?_, ?_, ?_, fun y hy => ?_, h.fc, h.sc, fun i hi hG' j hj => ?_⟩, ⟨Nat.le_succ _, fun i hi => hm i (hne i hi), fun i hi hi' => ?_, fun i b hb => hb⟩⟩
  · by_cases e : i = x
    · rw [e, hmx]; exact Nat.le_refl _
    · rw [hm i e]; exact Nat.le_succ_of_le (h.le i)
  · by_cases e : i = x
    · rw [e]; exact hx
    · rw [hm i e] at hi; exact h.lt i hi
  · have := h.fm i b hb
    rw [hm i (hne i this)]; exact this
  · show i ∈ s.stack ++ [x] ↔ _ ∧ s.found i = none
    rw [List.mem_append, List.mem_singleton, h.st]
    by_cases e : i = x
    · subst e
      rw [hmx]
      constructor
      · intro _
        refine ⟨Nat.succ_ne_zero _, ?_⟩
        cases hf : s.found i with
        | none => rfl
        | some b => exact absurd h0 (h.fm i b hf)
      · intro _; exact .inr rfl
    · rw [hm i e]; simp [e]
  · refine List.pairwise_append.2 ⟨List.Pairwise.imp_of_mem (fun {a b} ha hb hab => ?_) h.up, List.pairwise_singleton _ _, fun a ha b hb => ?_⟩
    · rw [hm a (hne a (hsx a ha)), hm b (hne b (hsx b hb))]; exact hab
    · rw [List.mem_singleton] at hb
      subst hb
      rw [hmx, hm a (hne a (hsx a ha))]; exact Nat.lt_succ_of_le (h.le a)
  · refine List.pairwise_append.2 ⟨h.rc, List.pairwise_singleton _ _, fun a ha b hb => ?_⟩
    rw [List.mem_singleton] at hb
    subst hb
    obtain ⟨g, hg, _, _, hr⟩ := h.gr a ha
    exact hr.trans (hG g hg)
  · rcases List.mem_append.1 hy with hy | hy
    · obtain ⟨g, hg, h1, h2, h3⟩ := h.gr y hy
      exact ⟨g, List.mem_cons_of_mem _ hg, List.mem_append_left _ h1, by rw [hm g (hne g (hsx g h1)), hm y (hne y (hsx y hy))]; exact h2, h3⟩
    · rw [List.mem_singleton] at hy
      subst hy
      exact ⟨y, List.mem_cons_self, List.mem_append_right _ (List.mem_singleton.2 rfl), Nat.le_refl _, .refl _⟩
  · have e : i ≠ x := fun e => hG' (by rw [e]; exact List.mem_cons_self)
    rw [hm i e] at hi
    have := h.bl i hi (fun hh => hG' (List.mem_cons_of_mem _ hh)) j hj
    rw [hm j (hne j this)]; exact this
  · by_cases e : i = x
    · rw [e, hmx]; exact Nat.lt_succ_self _
    · rw [hm i e] at hi'; exact absurd hi hi'

/-- Within a visit: D are the steps that have been looked at. -/
structure TL (E : Nat → Nat → Prop) (n : Nat) (s : TS) (G : List Nat) (x : Nat) (D : Nat → Prop) (t : TS) (r : Nat) : Prop where
  ti : TI E n t (x :: G)
  tx : TX s t
  mx : t.met x = s.many + 1
  st : ∃ T, t.stack = s.stack ++ x :: T ∧ ∀ z ∈ T, ∀ y ∈ s.stack, E z y → r ≤ s.met y
  at_ : r = s.many + 1 ∨ ∃ y ∈ s.stack, r = s.met y ∧ Rt E x y
  dn : ∀ j, D j → t.met j ≠ 0 ∧ (j ∈ s.stack → r ≤ s.met j)

theorem TI.stl {E : Nat → Nat → Prop} {n : Nat} {s : TS} {G : List Nat} (h : TI E n s G) {y : Nat} (hy : y ∈ s.stack) : s.met y ≠ 0 ∧ s.met y ≤ s.many := ⟨((h.st y).1 hy).1, h.le y⟩
theorem TL.rle {E : Nat → Nat → Prop} {n : Nat} {s : TS} {G : List Nat} {x : Nat} {D : Nat → Prop} {t : TS} {r : Nat} (h : TL E n s G x D t r) (hs : TI E n s G) : r ≤ s.many + 1 ∧ r ≠ 0 := by
  rcases h.at_ with e | ⟨y, hy, e, _⟩
  · omega
  · have := hs.stl hy; omega

theorem TL.start {E : Nat → Nat → Prop} {n : Nat} {s : TS} {G : List Nat} (h : TI E n s G) {x : Nat} (hx : x < n) (h0 : s.met x = 0) (hG : ∀ g ∈ G, Rt E g x) :
    TL E n s G x (fun _ => False) (s.enter x) (s.many + 1) := by
  obtain ⟨h1, h2⟩ := h.enter hx h0 hG
  exact ⟨h1, h2, if_pos rfl, ⟨[], rfl, fun z hz => nomatch hz⟩, .inl rfl, fun j hj => hj.elim⟩

/-- A step to what is no node, or to a node whose group is known. -/
theorem TL.skip {E : Nat → Nat → Prop} {n : Nat} {s : TS} {G : List Nat} {x : Nat} {D D' : Nat → Prop} {t : TS} {r : Nat} (h : TL E n s G x D t r) (hs : TI E n s G)
    (hD : ∀ j, D' j → D j ∨ ∃ b, t.found j = some b) : TL E n s G x D' t r := by
  refine ⟨h.ti, h.tx, h.mx, h.st, h.at_, fun j hj => ?_⟩
  rcases hD j hj with hj | ⟨b, hb⟩
  · exact h.dn j hj
  · refine ⟨h.ti.fm j b hb, fun hj' => ?_⟩
    obtain ⟨T, hT, _⟩ := h.st
    have : j ∈ t.stack := by rw [hT]; exact List.mem_append_left _ hj'
    rw [((h.ti.st j).1 this).2] at hb; cases hb

/-- A step to a node that waits. -/
theorem TL.wait {E : Nat → Nat → Prop} {n : Nat} {s : TS} {G : List Nat} {x : Nat} {D D' : Nat → Prop} {t : TS} {r : Nat} (h : TL E n s G x D t r) (hs : TI E n s G) {a : Nat} (hE : E x a)
    (hm : t.met a ≠ 0) (hf : t.found a = none) (hD : ∀ j, D' j → D j ∨ j = a) : TL E n s G x D' t (min r (t.met a)) := by
  have ha : a ∈ t.stack := (h.ti.st a).2 ⟨hm, hf⟩
  obtain ⟨T, hT, hz⟩ := h.st
  have hin : ∀ j ∈ s.stack, t.met j = s.met j := fun j hj => h.tx.met j (hs.stl hj).1
  refine ⟨h.ti, h.tx, h.mx, ⟨T, hT, fun z hz' y hy hE' => Nat.le_trans (Nat.min_le_left _ _) (hz z hz' y hy hE')⟩, ?_, fun j hj => ?_⟩
  · rcases Nat.le_total r (t.met a) with hle | hle
    · rw [Nat.min_eq_left hle]; exact h.at_
    · rw [Nat.min_eq_right hle]
      by_cases hs' : a ∈ s.stack
      · exact .inr ⟨a, hs', hin a hs', .one hE⟩
      · have h1 := (h.rle hs).1
        by_cases e : s.met a = 0
        · have := h.tx.new a e hm; left; omega
        · exfalso
          have e1 : s.found a = none := by
            cases hb : s.found a with
            | none => rfl
            | some b => rw [h.tx.found a b hb] at hf; cases hf
          exact hs' ((hs.st a).2 ⟨e, e1⟩)
  · rcases hD j hj with hj | rfl
    · exact ⟨(h.dn j hj).1, fun hj' => Nat.le_trans (Nat.min_le_left _ _) ((h.dn j hj).2 hj')⟩
    · exact ⟨hm, fun hj' => by rw [hin j hj']; exact Nat.min_le_right _ _⟩

/-- A step to a node that is visited. -/
theorem TL.visit {E : Nat → Nat → Prop} {n : Nat} {s : TS} {G : List Nat} {x : Nat} {D D' : Nat → Prop} {t u : TS} {r q : Nat} (h : TL E n s G x D t r) (hs : TI E n s G) {a : Nat} (hE : E x a)
    (h0 : t.met a = 0) (hp : TP E n t (x :: G) a u q) (hD : ∀ j, D' j → D j ∨ j = a) : TL E n s G x D' u (min r q) := by
  obtain ⟨T, hT, hz⟩ := h.st
  obtain ⟨U, hU, hw⟩ := hp.st
  have hxt : x ∈ t.stack := by rw [hT]; exact List.mem_append_right _ List.mem_cons_self
  have hsub : ∀ y ∈ s.stack, y ∈ t.stack := fun y hy => by rw [hT]; exact List.mem_append_left _ hy
  have hin : ∀ j ∈ s.stack, t.met j = s.met j := fun j hj => h.tx.met j (hs.stl hj).1
  have hmt : s.many + 1 ≤ t.many := by have := h.ti.le x; rw [h.mx] at this; exact this
  refine ⟨hp.ti, h.tx.trans hp.tx, ?_, ⟨T ++ U, by rw [hU, hT]; simp, fun z hz' y hy hE' => ?_⟩, ?_, fun j hj => ?_⟩
  · rw [hp.tx.met x (by rw [h.mx]; exact Nat.succ_ne_zero _), h.mx]
  · rcases List.mem_append.1 hz' with hz' | hz'
    · exact Nat.le_trans (Nat.min_le_left _ _) (hz z hz' y hy hE')
    · have := hw z hz' y (hsub y hy) hE'
      rw [hin y hy] at this
      exact Nat.le_trans (Nat.min_le_right _ _) this
  · have h1 := (h.rle hs).1
    rcases hp.at_ with hq | ⟨y, hy, hq, hr⟩
    · rw [Nat.min_eq_left (by omega)]; exact h.at_
    · rcases Nat.le_total r q with hle | hle
      · rw [Nat.min_eq_left hle]; exact h.at_
      · rw [Nat.min_eq_right hle]
        by_cases hs' : y ∈ s.stack
        · exact .inr ⟨y, hs', by rw [hq, hin y hs'], .head hE hr⟩
        · have hy' := (h.ti.st y).1 hy
          by_cases e : s.met y = 0
          · have := h.tx.new y e hy'.1; left; omega
          · exfalso
            have e1 : s.found y = none := by
              cases hb : s.found y with
              | none => rfl
              | some b => rw [h.tx.found y b hb] at hy'; cases hy'.2
            exact hs' ((hs.st y).2 ⟨e, e1⟩)
  · rcases hD j hj with hj | rfl
    · have := h.dn j hj
      exact ⟨by rw [hp.tx.met j this.1]; exact this.1, fun hj' => Nat.le_trans (Nat.min_le_left _ _) (this.2 hj')⟩
    · refine ⟨hp.mx, fun hj' => ?_⟩
      exact absurd h0 (h.ti.stl (hsub j hj')).1

/-- The group stays open. -/
theorem TL.keep {E : Nat → Nat → Prop} {n : Nat} {s : TS} {G : List Nat} {x : Nat} {D : Nat → Prop} {t : TS} {r : Nat} (h : TL E n s G x D t r) (hs : TI E n s G)
    (hD : ∀ j, E x j → D j) (hr : r ≠ s.many + 1) : TP E n s G x t r := by
  obtain ⟨T, hT, hz⟩ := h.st
  have hin : ∀ j ∈ s.stack, t.met j = s.met j := fun j hj => h.tx.met j (hs.stl hj).1
  have ha : ∃ y ∈ s.stack, r = s.met y ∧ Rt E x y := h.at_.resolve_left hr
  obtain ⟨y0, hy0, e0, hr0⟩ := ha
  have hxs : x ∈ t.stack := by rw [hT]; exact List.mem_append_right _ List.mem_cons_self
  refine ⟨⟨h.ti.le, h.ti.lt, h.ti.fm, h.ti.st, h.ti.up, h.ti.rc, fun y hy => ?_, h.ti.fc, h.ti.sc, fun i hi hG j hj => ?_⟩, h.tx, by rw [h.mx]; exact Nat.succ_ne_zero _, ⟨x :: T, hT, fun z hz' y hy hE => ?_⟩, .inr ⟨y0, hy0, e0, hr0⟩⟩
  · obtain ⟨g, hg, h1, h2, h3⟩ := h.ti.gr y hy
    rcases List.mem_cons.1 hg with rfl | hg
    · obtain ⟨g', hg', i1, i2, i3⟩ := hs.gr y0 hy0
      refine ⟨g', hg', by rw [hT]; exact List.mem_append_left _ i1, ?_, h3.trans (hr0.trans i3)⟩
      rw [hin g' i1]
      have := (hs.stl hy0).2
      rw [h.mx] at h2
      omega
    · exact ⟨g, hg, h1, h2, h3⟩
  · by_cases e : i = x
    · subst e; exact (h.dn j (hD j hj)).1
    · exact h.ti.bl i hi (fun hh => (List.mem_cons.1 hh).elim e hG) j hj
  · rcases List.mem_cons.1 hz' with rfl | hz'
    · exact (h.dn y (hD y hE)).2 hy
    · exact hz z hz' y hy hE

/-- The group is complete: what lies on the stack from x on. -/
def TS.close (t : TS) (S : List Nat) (b : Nat) (rest : List Nat) : TS := ⟨t.many, t.met, rest, fun i => if i ∈ S then some b else t.found i⟩
theorem TL.group {E : Nat → Nat → Prop} {n : Nat} {s : TS} {G : List Nat} {x : Nat} {D : Nat → Prop} {t : TS} (h : TL E n s G x D t (s.many + 1)) (hs : TI E n s G) (hG : ∀ g ∈ G, g ∈ s.stack)
    (hD : ∀ j, E x j → D j) {S : List Nat} (hS : t.stack = s.stack ++ S) :
    x ∈ S ∧ (∀ i ∈ S, ∀ j, E i j → j ∈ S ∨ ∃ b, t.found j = some b) ∧ (∀ i ∈ S, ∀ j, j ∈ S ↔ Sc E i j) ∧ (∀ i ∈ S, i < n ∧ t.found i = none) := by
  obtain ⟨T, hT, hz⟩ := h.st
  have e : S = x :: T := by rw [hS] at hT; exact List.append_cancel_left hT
  subst e
  have hin : ∀ j ∈ s.stack, t.met j = s.met j := fun j hj => h.tx.met j (hs.stl hj).1
  have hup := List.pairwise_append.1 (by rw [← hT]; exact h.ti.up)
  have hSm : ∀ i ∈ (x :: T), s.many + 1 ≤ t.met i := by
    intro i hi
    rcases List.mem_cons.1 hi with rfl | hi
    · rw [h.mx]; exact Nat.le_refl _
    · have := (List.pairwise_cons.1 hup.2.1).1 i hi
      rw [h.mx] at this; omega
  have hSt : ∀ i ∈ (x :: T), i ∈ t.stack := fun i hi => by rw [hT]; exact List.mem_append_right _ hi
  have hcl : ∀ i ∈ (x :: T), ∀ j, E i j → j ∈ (x :: T) ∨ ∃ b, t.found j = some b := by
    intro i hi j hj
    have hm : t.met j ≠ 0 := by
      rcases List.mem_cons.1 hi with rfl | hi'
      · exact (h.dn j (hD j hj)).1
      · refine h.ti.bl i ((h.ti.st i).1 (hSt i hi)).1 (fun hh => ?_) j hj
        rcases List.mem_cons.1 hh with rfl | hh
        · have := (List.pairwise_cons.1 hup.2.1).1 i hi'
          omega
        · have := hs.stl (hG i hh)
          have h3 := hSm i hi
          rw [hin i (hG i hh)] at h3
          omega
    cases hf : t.found j with
    | some b => exact .inr ⟨b, rfl⟩
    | none =>
      have : j ∈ t.stack := (h.ti.st j).2 ⟨hm, hf⟩
      rw [hT] at this
      rcases List.mem_append.1 this with hj' | hj'
      · exfalso
        have hle : s.many + 1 ≤ s.met j := by
          rcases List.mem_cons.1 hi with rfl | hi'
          · exact (h.dn j (hD j hj)).2 hj'
          · exact hz i hi' j hj' hj
        have := (hs.stl hj').2
        omega
      · exact .inl hj'
  have hcl2 : ∀ i j, Rt E i j → i ∈ (x :: T) → j ∈ (x :: T) ∨ ∃ b, t.found j = some b := by
    intro i j hr hi
    refine hr.closed (P := fun j => j ∈ (x :: T) ∨ ∃ b, t.found j = some b) (fun i hi j hj => ?_) (.inl hi)
    rcases hi with hi | ⟨b, hb⟩
    · exact hcl i hi j hj
    · exact .inr (h.ti.fc i b hb j hj)
  have hnf : ∀ i ∈ (x :: T), t.found i = none := fun i hi => ((h.ti.st i).1 (hSt i hi)).2
  have hfr : ∀ i j, Rt E i j → (∃ b, t.found i = some b) → ∃ b, t.found j = some b := fun i j hr hi => hr.closed (P := fun j => ∃ b, t.found j = some b) (fun i ⟨b, hb⟩ j hj => h.ti.fc i b hb j hj) hi
  have hxr : ∀ i ∈ (x :: T), Rt E x i := by
    intro i hi
    rcases List.mem_cons.1 hi with rfl | hi
    · exact .refl _
    · have := List.pairwise_append.1 (by rw [← hT]; exact h.ti.rc)
      exact (List.pairwise_cons.1 this.2.1).1 i hi
  have hrx : ∀ i ∈ (x :: T), Rt E i x := by
    intro i hi
    obtain ⟨g, hg, h1, h2, h3⟩ := h.ti.gr i (hSt i hi)
    rcases List.mem_cons.1 hg with rfl | hg
    · exact h3
    · exfalso
      rcases hcl2 i g h3 hi with h4 | ⟨b, hb⟩
      · have h5 := hSm g h4
        have := hs.stl (hG g hg)
        rw [hin g (hG g hg)] at h5
        omega
      · rw [((h.ti.st g).1 h1).2] at hb; cases hb
  refine ⟨List.mem_cons_self, hcl, fun i hi j => ⟨fun hj => ⟨(hrx i hi).trans (hxr j hj), (hrx j hj).trans (hxr i hi)⟩, fun hh => ?_⟩, fun i hi => ⟨h.ti.lt i ((h.ti.st i).1 (hSt i hi)).1, hnf i hi⟩⟩
  rcases hcl2 i j hh.1 hi with h1 | h1
  · exact h1
  · obtain ⟨b, hb⟩ := hfr j i hh.2 h1
    rw [hnf i hi] at hb; cases hb

theorem TL.close {E : Nat → Nat → Prop} {n : Nat} {s : TS} {G : List Nat} {x : Nat} {D : Nat → Prop} {t : TS} (h : TL E n s G x D t (s.many + 1)) (hs : TI E n s G) (hG : ∀ g ∈ G, g ∈ s.stack)
    (hD : ∀ j, E x j → D j) {S : List Nat} (hS : t.stack = s.stack ++ S) {b : Nat} (hb : ∀ i c, t.found i = some c → c ≠ b) :
    TP E n s G x (t.close S b s.stack) (s.many + 1) := by
  obtain ⟨hx, hcl, hsc, hSn⟩ := h.group hs hG hD hS
  have hin : ∀ j ∈ s.stack, t.met j = s.met j := fun j hj => h.tx.met j (hs.stl hj).1
  have hup := List.pairwise_append.1 (by rw [← hS]; exact h.ti.up)
  have hrc := List.pairwise_append.1 (by rw [← hS]; exact h.ti.rc)
  have hdis : ∀ i ∈ s.stack, ¬ i ∈ S := fun i hi hi' => by have := hup.2.2 i hi i hi'; omega
  have hfn : ∀ i, i ∈ S → (t.close S b s.stack).found i = some b := fun i hi => if_pos hi
  have hfo : ∀ i, ¬ i ∈ S → (t.close S b s.stack).found i = t.found i := fun i hi => if_neg hi
  have hSt : ∀ i ∈ S, i ∈ t.stack := fun i hi => by rw [hS]; exact List.mem_append_right _ hi
  have hfr : ∀ i j, Rt E i j → (∃ b, t.found i = some b) → ∃ b, t.found j = some b := fun i j hr hi => hr.closed (P := fun j => ∃ b, t.found j = some b) (fun i ⟨b, hb⟩ j hj => h.ti.fc i b hb j hj) hi
  refine ⟨⟨h.ti.le, h.ti.lt, fun i c hc => ?_, fun i => ?_, hup.1, hrc.1, fun y hy => ?_, fun i c hc j hj => ?_, fun i j c d hc hd => ?_, fun i hi hiG j hj => ?_⟩, ⟨h.tx.many, h.tx.met, h.tx.new, fun i c hc => ?_⟩, by show t.met x ≠ 0; rw [h.mx]; exact Nat.succ_ne_zero _, ⟨[], by simp [TS.close], fun z hz => nomatch hz⟩, .inl (Nat.lt_succ_self _)⟩
  · show t.met i ≠ 0
    by_cases hi : i ∈ S
    · exact ((h.ti.st i).1 (hSt i hi)).1
    · rw [hfo i hi] at hc; exact h.ti.fm i c hc
  · show i ∈ s.stack ↔ t.met i ≠ 0 ∧ _
    by_cases hi : i ∈ S
    · rw [hfn i hi]
      constructor
      · intro hh; exact absurd hi (hdis i hh)
      · rintro ⟨_, e⟩; cases e
    · rw [hfo i hi, ← h.ti.st, hS, List.mem_append]; simp [hi]
  · obtain ⟨g, hg, h1, h2, h3⟩ := hs.gr y hy
    refine ⟨g, hg, h1, ?_, h3⟩
    show t.met g ≤ t.met y
    rw [hin g h1, hin y hy]; exact h2
  · by_cases hj' : j ∈ S
    · exact ⟨b, hfn j hj'⟩
    · rw [hfo j hj']
      by_cases hi : i ∈ S
      · exact (hcl i hi j hj).resolve_left hj'
      · rw [hfo i hi] at hc; exact h.ti.fc i c hc j hj
  · by_cases hi : i ∈ S
    · rw [hfn i hi] at hc
      cases hc
      by_cases hj : j ∈ S
      · rw [hfn j hj] at hd
        cases hd
        exact ⟨fun _ => (hsc i hi j).1 hj, fun _ => rfl⟩
      · rw [hfo j hj] at hd
        exact ⟨fun e => absurd e.symm (hb j d hd), fun e => absurd ((hsc i hi j).2 e) hj⟩
    · rw [hfo i hi] at hc
      by_cases hj : j ∈ S
      · rw [hfn j hj] at hd
        cases hd
        exact ⟨fun e => absurd e (hb i c hc), fun e => absurd ((hsc j hj i).2 e.symm) hi⟩
      · rw [hfo j hj] at hd
        exact h.ti.sc i j c d hc hd
  · show t.met j ≠ 0
    by_cases e : i ∈ S
    · rcases hcl i e j hj with h1 | ⟨c, hc⟩
      · exact ((h.ti.st j).1 (hSt j h1)).1
      · exact h.ti.fm j c hc
    · exact h.ti.bl i hi (fun hh => (List.mem_cons.1 hh).elim (fun e' => e (by rw [e']; exact hx)) hiG) j hj
  · have := h.tx.found i c hc
    rw [hfo i (fun hi => by rw [(hSn i hi).2] at this; cases this)]; exact this
end Go.Proofs.Ytblkpkjgmjnimaa

/- Plain facts on numbers as sets of bits: how many, the lowest, the highest, in order. -/
namespace Go.Proofs.Ytblkpkjgmjnimaa
set_option linter.unusedVariables false

/-- How many of the lowest n bits are set. -/
def pc : Nat → Nat → Nat
  | 0, _ => 0
  | n + 1, x => x % 2 + pc n (x / 2)
theorem pc_add : ∀ (m n x : Nat), pc (m + n) x = pc m (x % 2 ^ m) + pc n (x / 2 ^ m)
  | 0, n, x => by simp [pc]
  | m + 1, n, x => by
    rw [show m + 1 + n = (m + n) + 1 by omega, pc, pc, pc_add m n]
    have e1 : x % 2 ^ (m + 1) % 2 = x % 2 := by rw [Nat.pow_succ, Nat.mul_comm]; exact Nat.mod_mul_right_mod x 2 (2 ^ m)
    have e2 : x % 2 ^ (m + 1) / 2 = x / 2 % 2 ^ m := by rw [Nat.pow_succ, Nat.mul_comm, Nat.mod_mul_right_div_self]
    have e3 : x / 2 / 2 ^ m = x / 2 ^ (m + 1) := by rw [Nat.div_div_eq_div_mul, Nat.pow_succ, Nat.mul_comm]
    rw [e1, e2, e3]; omega
theorem pc_le : ∀ (n x : Nat), pc n x ≤ n
  | 0, _ => Nat.le_refl _
  | n + 1, x => by unfold pc; have := pc_le n (x / 2); omega

/-- Numbers out of bytes, the lowest first. -/
def dig : List Nat → Nat
  | [] => 0
  | b :: r => b + 256 * dig r
theorem and_parts (k b m h g : Nat) (hb : b < 2 ^ k) (hm : m < 2 ^ k) : (b + 2 ^ k * h) &&& (m + 2 ^ k * g) = (b &&& m) + 2 ^ k * (h &&& g) := by
  have hbm : b &&& m < 2 ^ k := Nat.and_lt_two_pow _ hm
  apply Nat.eq_of_testBit_eq
  intro i
  rw [Nat.testBit_and, Nat.add_comm b, Nat.add_comm m, Nat.add_comm (b &&& m), Nat.testBit_two_pow_mul_add _ hb, Nat.testBit_two_pow_mul_add _ hm, Nat.testBit_two_pow_mul_add _ hbm]
  split
  · rw [Nat.testBit_and]
  · rw [Nat.testBit_and]
theorem and_dig (b m h g : Nat) (hb : b < 256) (hm : m < 256) : (b + 256 * h) &&& (m + 256 * g) = (b &&& m) + 256 * (h &&& g) := and_parts 8 b m h g hb hm

def s1 (b : Nat) : Nat := (b / 2 &&& 85) + (b &&& 85)
def s2 (b : Nat) : Nat := (b / 4 &&& 51) + (b &&& 51)
def s3 (b : Nat) : Nat := (b / 16 + b) &&& 15
theorem s1_lt : ∀ b, b < 256 → s1 b < 256 ∧ ∀ t, t < 2 → (b / 2 + 128 * t) &&& 85 = b / 2 &&& 85 := by decide +kernel
theorem s2_lt : ∀ b, b < 256 → s2 b < 256 ∧ ∀ t, t < 4 → (b / 4 + 64 * t) &&& 51 = b / 4 &&& 51 := by decide +kernel
theorem s3_lt : ∀ b, b < 69 → b % 16 < 5 → ∀ t, t < 5 → (b / 16 + 16 * t + b) &&& 15 = s3 b := by decide +kernel
theorem s_all : ∀ b, b < 256 → s2 (s1 b) < 69 ∧ s2 (s1 b) % 16 < 5 ∧ s3 (s2 (s1 b)) = pc 8 b := by decide +kernel

def rep (n m : Nat) : Nat := dig (List.replicate n m)
theorem dig_one : ∀ bs : List Nat, (∀ b ∈ bs, b < 256) → (dig bs / 2 &&& rep bs.length 85) + (dig bs &&& rep bs.length 85) = dig (bs.map s1)
  | [], _ => rfl
  | b :: r, h => by
    have ih := dig_one r (fun x hx => h x (List.mem_cons_of_mem _ hx))
    have hb := h b List.mem_cons_self
    have hs := (s1_lt b hb).2 (dig r % 2) (by omega)
    have e : dig (b :: r) / 2 = (b / 2 + 128 * (dig r % 2)) + 256 * (dig r / 2) := by simp only [dig]; omega
    rw [e]
    simp only [rep, List.length_cons, List.replicate_succ, dig, List.map_cons] at ih ⊢
    rw [and_dig _ _ _ _ (by omega) (by decide), and_dig _ _ _ _ hb (by decide), hs, ← ih]
    unfold s1; omega
theorem dig_two : ∀ bs : List Nat, (∀ b ∈ bs, b < 256) → (dig bs / 4 &&& rep bs.length 51) + (dig bs &&& rep bs.length 51) = dig (bs.map s2)
  | [], _ => rfl
  | b :: r, h => by
    have ih := dig_two r (fun x hx => h x (List.mem_cons_of_mem _ hx))
    have hb := h b List.mem_cons_self
    have hs := (s2_lt b hb).2 (dig r % 4) (by omega)
    have e : dig (b :: r) / 4 = (b / 4 + 64 * (dig r % 4)) + 256 * (dig r / 4) := by simp only [dig]; omega
    rw [e]
    simp only [rep, List.length_cons, List.replicate_succ, dig, List.map_cons] at ih ⊢
    rw [and_dig _ _ _ _ (by omega) (by decide), and_dig _ _ _ _ hb (by decide), hs, ← ih]
    unfold s2; omega
theorem dig_three : ∀ bs : List Nat, (∀ b ∈ bs, b < 69 ∧ b % 16 < 5) → (dig bs / 16 + dig bs) &&& rep bs.length 15 = dig (bs.map s3)
  | [], _ => rfl
  | b :: r, h => by
    have ih := dig_three r (fun x hx => h x (List.mem_cons_of_mem _ hx))
    have hb := h b List.mem_cons_self
    have ht : dig r % 16 < 5 := by
      cases r with
      | nil => decide
      | cons c q => have := (h c (by simp)).2; simp only [dig]; omega
    have hs := s3_lt b hb.1 hb.2 (dig r % 16) ht
    have e : dig (b :: r) / 16 + dig (b :: r) = (b / 16 + 16 * (dig r % 16) + b) + 256 * (dig r / 16 + dig r) := by simp only [dig]; omega
    rw [e]
    simp only [rep, List.length_cons, List.replicate_succ, dig, List.map_cons] at ih ⊢
    rw [and_dig _ _ _ _ (by omega) (by decide), hs, ih]

/-- The bytes of a number. -/
def byt : Nat → Nat → List Nat
  | 0, _ => []
  | n + 1, x => x % 256 :: byt n (x / 256)
theorem byt_lt : ∀ (n x : Nat), ∀ b ∈ byt n x, b < 256
  | 0, _, b, hb => by simp [byt] at hb
  | n + 1, x, b, hb => by
    simp only [byt, List.mem_cons] at hb
    rcases hb with rfl | hb
    · exact Nat.mod_lt _ (by decide)
    · exact byt_lt n _ b hb
theorem byt_len : ∀ (n x : Nat), (byt n x).length = n
  | 0, _ => rfl
  | n + 1, x => by simp [byt, byt_len n]
theorem byt_dig : ∀ (n x : Nat), x < 256 ^ n → dig (byt n x) = x
  | 0, x, h => by simp at h; simp [byt, dig, h]
  | n + 1, x, h => by
    simp only [byt, dig]
    rw [byt_dig n (x / 256) (by rw [Nat.pow_succ] at h; omega)]; omega
theorem byt_pc : ∀ (n x : Nat), ((byt n x).map (pc 8)).sum = pc (8 * n) x
  | 0, x => rfl
  | n + 1, x => by
    rw [show 8 * (n + 1) = 8 + 8 * n by omega, pc_add]
    simp only [byt, List.map_cons, List.sum_cons]
    rw [byt_pc n]

theorem ones_sum (c c0 c1 c2 c3 c4 c5 c6 c7 : Nat) (e : c = c0 + 256 * (c1 + 256 * (c2 + 256 * (c3 + 256 * (c4 + 256 * (c5 + 256 * (c6 + 256 * (c7 + 256 * 0))))))))
    (p0 : c0 ≤ 8) (p1 : c1 ≤ 8) (p2 : c2 ≤ 8) (p3 : c3 ≤ 8) (p4 : c4 ≤ 8) (p5 : c5 ≤ 8) (p6 : c6 ≤ 8) (p7 : c7 ≤ 8) :
    c ≤ 578721382704613384 ∧ ((c + c / 256) + (c + c / 256) / 65536 + ((c + c / 256) + (c + c / 256) / 65536) / 4294967296) % 128 = c0 + (c1 + (c2 + (c3 + (c4 + (c5 + (c6 + (c7 + 0))))))) ∧ (c + c / 256) + (c + c / 256) / 65536 + ((c + c / 256) + (c + c / 256) / 65536) / 4294967296 < 2305843009213693952 := by
  have d1 : c / 256 = c1 + 256 * (c2 + 256 * (c3 + 256 * (c4 + 256 * (c5 + 256 * (c6 + 256 * c7))))) := by omega
  obtain ⟨a, ha⟩ : ∃ a, c + c / 256 = a := ⟨_, rfl⟩
  have e1 : a = (c0 + c1) + 256 * ((c1 + c2) + 256 * ((c2 + c3) + 256 * ((c3 + c4) + 256 * ((c4 + c5) + 256 * ((c5 + c6) + 256 * ((c6 + c7) + 256 * c7)))))) := by omega
  rw [ha]
  have d2 : a / 65536 = (c2 + c3) + 256 * ((c3 + c4) + 256 * ((c4 + c5) + 256 * ((c5 + c6) + 256 * ((c6 + c7) + 256 * c7)))) := by clear ha d1 e; omega
  have hc : c ≤ 578721382704613384 := by clear ha d1 d2 e1; omega
  obtain ⟨b, hb⟩ : ∃ b, a + a / 65536 = b := ⟨_, rfl⟩
  have e2 : b = (c0 + c1 + c2 + c3) + 256 * ((c1 + c2 + c3 + c4) + 256 * ((c2 + c3 + c4 + c5) + 256 * ((c3 + c4 + c5 + c6) + 256 * ((c4 + c5 + c6 + c7) + 256 * ((c5 + c6 + c7) + 256 * ((c6 + c7) + 256 * c7)))))) := by clear ha d1 e; omega
  rw [hb]
  clear ha d1 e d2 e1 hb
  have d3 : b / 4294967296 = (c4 + c5 + c6 + c7) + 256 * ((c5 + c6 + c7) + 256 * ((c6 + c7) + 256 * c7)) := by omega
  rw [d3]
  refine ⟨hc, ?_, ?_⟩
  · omega
  · omega

set_option maxRecDepth 100000 in
set_option maxHeartbeats 1000000 in
/-- What OnesCount64 reckons. -/
theorem ones_trick (x a b c : Nat) (hx : x < 18446744073709551616) (ha : a = (x / 2 &&& 6148914691236517205) + (x &&& 6148914691236517205)) (hb : b = (a / 4 &&& 3689348814741910323) + (a &&& 3689348814741910323))
    (hc : c = (b / 16 + b) &&& 1085102592571150095) :
    a ≤ 12297829382473034410 ∧ b ≤ 7378697629483820646 ∧ c ≤ 578721382704613384 ∧ ((c + c / 256) + (c + c / 256) / 65536 + ((c + c / 256) + (c + c / 256) / 65536) / 4294967296) % 128 = pc 64 x ∧ (c + c / 256) + (c + c / 256) / 65536 + ((c + c / 256) + (c + c / 256) / 65536) / 4294967296 < 2305843009213693952 := by
  have r1 : rep 8 85 = 6148914691236517205 := by decide +kernel
  have r2 : rep 8 51 = 3689348814741910323 := by decide +kernel
  have r3 : rep 8 15 = 1085102592571150095 := by decide +kernel
  have hA : ∀ b ∈ byt 8 x, b < 256 := byt_lt 8 x
  have e1 := dig_one (byt 8 x) hA
  have h8 : x < 256 ^ 8 := by omega
  rw [byt_dig 8 x h8, byt_len, r1, ← ha] at e1
  have hB : ∀ b ∈ (byt 8 x).map s1, b < 256 := by
    intro b hb; obtain ⟨y, hy, rfl⟩ := List.mem_map.1 hb; exact (s1_lt y (hA y hy)).1
  have e2 := dig_two ((byt 8 x).map s1) hB
  rw [← e1, List.length_map, byt_len, r2, ← hb] at e2
  have hC : ∀ b ∈ ((byt 8 x).map s1).map s2, b < 69 ∧ b % 16 < 5 := by
    intro b hb
    obtain ⟨z, hz, rfl⟩ := List.mem_map.1 hb
    obtain ⟨y, hy, rfl⟩ := List.mem_map.1 hz
    have := s_all y (hA y hy); exact ⟨this.1, this.2.1⟩
  have e3 := dig_three (((byt 8 x).map s1).map s2) hC
  rw [← e2, List.length_map, List.length_map, byt_len, r3, ← hc] at e3
  have e4 : (((byt 8 x).map s1).map s2).map s3 = (byt 8 x).map (pc 8) := by
    rw [List.map_map, List.map_map]
    apply List.map_congr_left
    intro y hy
    exact (s_all y (hA y hy)).2.2
  rw [e4] at e3
  have e5 := byt_pc 8 x
  have a1 : (x / 2 &&& 6148914691236517205) ≤ 6148914691236517205 := Nat.and_le_right
  have a2 : (x &&& 6148914691236517205) ≤ 6148914691236517205 := Nat.and_le_right
  have a3 : (a / 4 &&& 3689348814741910323) ≤ 3689348814741910323 := Nat.and_le_right
  have a4 : (a &&& 3689348814741910323) ≤ 3689348814741910323 := Nat.and_le_right
  refine ⟨by omega, by omega, ?_⟩
  clear a1 a2 a3 a4 e4 hC e2 hB e1 hc hb ha r1 r2 r3
  simp only [byt, List.map_cons, List.map_nil, dig, List.sum_cons, List.sum_nil] at e3 e5
  have h := ones_sum c _ _ _ _ _ _ _ _ e3 (pc_le 8 _) (pc_le 8 _) (pc_le 8 _) (pc_le 8 _) (pc_le 8 _) (pc_le 8 _) (pc_le 8 _) (pc_le 8 _)
  rw [e5] at h
  exact h

/-- Which bits are set, in order. -/
def nums (m : Nat) : List Nat := (List.range 64).filter fun i => m.testBit i
theorem mem_nums {m n : Nat} : n ∈ nums m ↔ n < 64 ∧ m.testBit n = true := by simp [nums]
theorem count_pc : ∀ (n m : Nat), (List.range n).countP (fun i => m.testBit i) = pc n m
  | 0, m => rfl
  | n + 1, m => by
    rw [List.range_succ_eq_map, List.countP_cons, List.countP_map, pc, ← count_pc n (m / 2)]
    have e : ((fun i => m.testBit i) ∘ Nat.succ) = fun i => (m / 2).testBit i := by
      funext i; simp [Nat.testBit_succ]
    rw [e, Nat.testBit_zero]
    rcases Nat.mod_two_eq_zero_or_one m with h | h <;> simp [h] <;> omega
theorem nums_len (m : Nat) : (nums m).length = pc 64 m := by
  unfold nums; rw [← List.countP_eq_length_filter]; exact count_pc 64 m
theorem nums_asc (m : Nat) : (nums m).Pairwise (· < ·) := List.Pairwise.filter _ List.pairwise_lt_range
theorem nums_zero : nums 0 = [] := by unfold nums; rw [List.filter_eq_nil_iff]; intro a _; simp

/-- The lowest bit. -/
theorem low_bit {x : Nat} (h0 : x ≠ 0) (h : x < 18446744073709551616) :
    Lib.ctz 64 x < 64 ∧ x.testBit (Lib.ctz 64 x) = true ∧ (∀ i, i < Lib.ctz 64 x → x.testBit i = false) ∧ (∀ i, (x &&& (x - 1)).testBit i = (x.testBit i && decide (i ≠ Lib.ctz 64 x))) := by
  obtain ⟨m, hm, hk⟩ := Lib.ctzFrom_spec 64 x (by omega) h
  have e : Lib.ctz 64 x = Lib.ctzFrom 64 x := by simp [Lib.ctz, h0]
  rw [e]
  generalize Lib.ctzFrom 64 x = k at *
  have hp : 0 < 2 ^ k := Nat.two_pow_pos k
  have t1 : ∀ i, x.testBit i = if i < k then false else (2 * m + 1).testBit (i - k) := by
    intro i
    have := Nat.testBit_two_pow_mul_add (2 * m + 1) (b := 0) hp i
    rw [Nat.add_zero, ← hm] at this
    rw [this]; simp
  have t2 : ∀ i, (x - 1).testBit i = if i < k then (2 ^ k - 1).testBit i else (2 * m).testBit (i - k) := by
    intro i
    have e2 : x - 1 = 2 ^ k * (2 * m) + (2 ^ k - 1) := by rw [hm, Nat.mul_add]; omega
    rw [e2, Nat.testBit_two_pow_mul_add _ (by omega)]
  refine ⟨hk, ?_, fun i hi => by rw [t1, if_pos hi], fun i => ?_⟩
  · rw [t1, if_neg (Nat.lt_irrefl _), Nat.sub_self, Nat.testBit_zero]; simp
  · rw [Nat.testBit_and, t2, t1]
    by_cases hi : i < k
    · simp [hi]
    · rw [if_neg hi, if_neg hi]
      by_cases he : i = k
      · subst he; simp [Nat.testBit_zero]
      · obtain ⟨j, hj⟩ : ∃ j, i - k = j + 1 := ⟨i - k - 1, by omega⟩
        rw [hj, Nat.testBit_succ, Nat.testBit_succ, show (2 * m + 1) / 2 = m by omega, show 2 * m / 2 = m by omega]
        simp [he]
theorem low_less {x : Nat} (h0 : x ≠ 0) : x &&& (x - 1) < x := Nat.lt_of_le_of_lt Nat.and_le_right (by omega)

/-- The highest bit. -/
theorem high_bit {x : Nat} (h0 : x ≠ 0) (h : x < 18446744073709551616) :
    1 ≤ Lib.bitLen x ∧ Lib.bitLen x ≤ 64 ∧ x.testBit (Lib.bitLen x - 1) = true ∧ ∀ i, Lib.bitLen x ≤ i → x.testBit i = false := by
  have hb := Lib.bitLenAux_bounds 64 x h h0
  have hl : Lib.bitLen x ≤ 64 := Lib.bitLen_le x 64 (Nat.le_refl _) h
  unfold Lib.bitLen at *
  generalize Lib.bitLenAux 64 x = L at *
  obtain ⟨h1, h2, h3⟩ := hb
  refine ⟨h1, hl, ?_, fun i hi => Nat.testBit_lt_two_pow (Nat.lt_of_lt_of_le h3 (Nat.pow_le_pow_right (by decide) hi))⟩
  obtain ⟨k, rfl⟩ : ∃ k, L = k + 1 := ⟨L - 1, by omega⟩
  rw [Nat.add_sub_cancel] at h2 ⊢
  have e : x = 2 ^ k * 1 + (x - 2 ^ k) := by omega
  rw [e, Nat.testBit_two_pow_mul_add _ (by rw [Nat.pow_succ] at h3; omega), if_neg (Nat.lt_irrefl _), Nat.sub_self]; decide
end Go.Proofs.Ytblkpkjgmjnimaa

/- Plain facts on sorted ids and their sets of bits. -/
namespace Go.Proofs.Ytblkpkjgmjnimaa
set_option linter.unusedVariables false

/-- Each id is ahead of the next one. -/
def ascB : List Pid → Bool
  | [] => true
  | [_] => true
  | a :: b :: r => ltP a b && ascB (b :: r)
theorem ascB_asc : ∀ {L : List Pid}, ascB L = true → Asc L
  | [], _ => asc_nil
  | [a], _ => List.pairwise_singleton _ _
  | a :: b :: r, h => by
    simp only [ascB, Bool.and_eq_true] at h
    have ih := ascB_asc (L := b :: r) h.2
    refine List.pairwise_cons.2 ⟨fun x hx => ?_, ih⟩
    rcases List.mem_cons.1 hx with rfl | hx
    · exact h.1
    · exact ltP_trans h.1 ((List.pairwise_cons.1 ih).1 x hx)
theorem asc_ascB : ∀ {L : List Pid}, Asc L → ascB L = true
  | [], _ => rfl
  | [a], _ => rfl
  | a :: b :: r, h => by
    have h' := List.pairwise_cons.1 h
    simp only [ascB, Bool.and_eq_true]
    exact ⟨h'.1 b List.mem_cons_self, asc_ascB h'.2⟩
theorem asc_adj : ∀ {L : List Pid}, (∀ i, i + 1 < L.length → ltP (L.getD i nop) (L.getD (i + 1) nop) = true) → Asc L
  | [], _ => asc_nil
  | [a], _ => List.pairwise_singleton _ _
  | a :: b :: r, h => by
    apply ascB_asc
    simp only [ascB, Bool.and_eq_true]
    exact ⟨h 0 (by simp), asc_ascB (asc_adj fun i hi => h (i + 1) (by simpa using hi))⟩

/-- What sorted ids are. -/
def srtB (L : List Pid) : Bool := decide (L.length ≤ 12) && (L.all okP && ascB L)
theorem srt_of {L : List Pid} (h : srtB L = true) : L.length ≤ 12 ∧ L.all okP = true ∧ Asc L := by
  simp only [srtB, Bool.and_eq_true, decide_eq_true_eq] at h
  exact ⟨h.1, h.2.1, ascB_asc h.2.2⟩
theorem srt_to {L : List Pid} (h1 : L.length ≤ 12) (h2 : L.all okP = true) (h3 : Asc L) : srtB L = true := by
  simp only [srtB, Bool.and_eq_true, decide_eq_true_eq]
  exact ⟨h1, h2, asc_ascB h3⟩
theorem srt_no {L : List Pid} (h : ¬ (L.length ≤ 12 ∧ L.all okP = true ∧ Asc L)) : srtB L = false := by
  cases e : srtB L with
  | false => rfl
  | true => exact absurd (srt_of e) h
theorem srt_long {L : List Pid} (h : ¬ L.length ≤ 12) : srtB L = false := srt_no fun x => h x.1
theorem all_get {L : List Pid} (h : L.all okP = true) {k : Nat} (hk : k < L.length) : okP (L.getD k nop) = true := by
  rw [List.getD_eq_getElem?_getD, List.getElem?_eq_getElem hk]
  exact List.all_eq_true.1 h _ (List.getElem_mem hk)
theorem srt_bad {L : List Pid} {k : Nat} (hk : k < L.length) (h : okP (L.getD k nop) = false) : srtB L = false := srt_no fun x => by
  have := all_get x.2.1 hk
  rw [h] at this; cases this
theorem srt_turn {L : List Pid} {k : Nat} (hk : k + 1 < L.length) (h : ltP (L.getD k nop) (L.getD (k + 1) nop) = false) : srtB L = false := srt_no fun x => by
  have := asc_lt x.2.2 (Nat.lt_succ_self k) hk
  rw [h] at this; cases this
theorem all_okL {L : List Pid} (h : ∀ j, j < L.length → okP (L.getD j nop) = true) : L.all okP = true := by
  rw [List.all_eq_true]
  intro x hx
  obtain ⟨i, hi, e⟩ := List.getElem_of_mem hx
  have := h i hi
  rw [List.getD_eq_getElem?_getD, List.getElem?_eq_getElem hi, Option.getD_some, e] at this
  exact this
theorem okP_of {a : Pid} (h : okP a = true) : 0 ≤ a.1 ∧ a.1 ≤ 4 ∧ 1 ≤ a.2 ∧ a.2 ≤ 50 := by simpa [okP, idB] using h
theorem okP_to {a : Pid} (h : 0 ≤ a.1 ∧ a.1 ≤ 4 ∧ 1 ≤ a.2 ∧ a.2 ≤ 50) : okP a = true := by simpa [okP, idB] using h

/-- The numbers of a replica, as bits. -/
def mask (L : List Pid) (r : Nat) : Nat := L.foldl (fun m a => if a.1 = (r : Int) then m ||| 2 ^ a.2.toNat else m) 0
theorem mask_app (L : List Pid) (a : Pid) (r : Nat) : mask (L ++ [a]) r = if a.1 = (r : Int) then mask L r ||| 2 ^ a.2.toNat else mask L r := by
  unfold mask; rw [List.foldl_append]; rfl
theorem mask_take {L : List Pid} {k : Nat} (hk : k < L.length) (r : Nat) : mask (L.take (k + 1)) r = if (L.getD k nop).1 = (r : Int) then mask (L.take k) r ||| 2 ^ (L.getD k nop).2.toNat else mask (L.take k) r := by
  rw [take_next hk, mask_app]
theorem fold_bit (r n : Nat) : ∀ (L : List Pid) (m : Nat), (∀ x ∈ L, 0 ≤ x.2) → ((L.foldl (fun m a => if a.1 = (r : Int) then m ||| 2 ^ a.2.toNat else m) m).testBit n = true ↔ m.testBit n = true ∨ ((r : Int), (n : Int)) ∈ L)
  | [], m, _ => by simp
  | a :: L, m, h => by
    rw [List.foldl_cons, fold_bit r n L _ (fun x hx => h x (List.mem_cons_of_mem _ hx)), List.mem_cons]
    have ha := h a List.mem_cons_self
    obtain ⟨p, q⟩ := a
    dsimp only at ha ⊢
    obtain ⟨q, rfl⟩ := Int.eq_ofNat_of_zero_le ha
    have e : (((r : Int), (n : Int)) = (p, (q : Int))) ↔ p = (r : Int) ∧ q = n := by
      rw [Prod.mk.injEq]
      constructor
      · rintro ⟨h1, h2⟩; exact ⟨h1.symm, by omega⟩
      · rintro ⟨h1, h2⟩; exact ⟨h1.symm, by omega⟩
    rw [e]
    by_cases hp : p = (r : Int)
    · simp only [if_pos hp, Nat.testBit_or, Bool.or_eq_true, Nat.testBit_two_pow, decide_eq_true_eq, Int.toNat_natCast]
      constructor
      · rintro ((h1 | h1) | h1)
        · exact .inl h1
        · exact .inr (.inl ⟨hp, h1⟩)
        · exact .inr (.inr h1)
      · rintro (h1 | ⟨_, h1⟩ | h1)
        · exact .inl (.inl h1)
        · exact .inl (.inr h1)
        · exact .inr h1
    · simp only [if_neg hp]
      constructor
      · rintro (h1 | h1)
        · exact .inl h1
        · exact .inr (.inr h1)
      · rintro (h1 | ⟨h1, _⟩ | h1)
        · exact .inl h1
        · exact absurd h1 hp
        · exact .inr h1
theorem mask_bit {L : List Pid} (h : L.all okP = true) (r n : Nat) : (mask L r).testBit n = true ↔ ((r : Int), (n : Int)) ∈ L := by
  unfold mask
  rw [fold_bit r n L 0 (fun x hx => by have := okP_of (List.all_eq_true.1 h x hx); omega)]
  simp
theorem fold_lt (r : Nat) : ∀ (L : List Pid) (m : Nat), m < 2 ^ 51 → (∀ x ∈ L, okP x = true) → L.foldl (fun m a => if a.1 = (r : Int) then m ||| 2 ^ a.2.toNat else m) m < 2 ^ 51
  | [], m, hm, _ => hm
  | a :: L, m, hm, h => by
    rw [List.foldl_cons]
    refine fold_lt r L _ ?_ (fun x hx => h x (List.mem_cons_of_mem _ hx))
    have ha := okP_of (h a List.mem_cons_self)
    split
    · exact Nat.or_lt_two_pow hm (Nat.pow_lt_pow_right (by decide) (by omega))
    · exact hm
theorem mask_lt {L : List Pid} (h : L.all okP = true) (r : Nat) : mask L r < 2251799813685248 :=
  fold_lt r L 0 (by decide) (List.all_eq_true.1 h)
theorem take_all {L : List Pid} (k : Nat) (h : ∀ j, j < k → okP (L.getD j nop) = true) (hk : k ≤ L.length) : (L.take k).all okP = true := by
  apply all_okL
  intro j hj
  rw [List.length_take] at hj
  have e : (L.take k).getD j nop = L.getD j nop := by
    rw [List.getD_eq_getElem?_getD, List.getElem?_take, if_pos (by omega), ← List.getD_eq_getElem?_getD]
  rw [e]; exact h j (by omega)

/-- Whether all are among others. -/
def inP (a b : List Pid) : Bool := a.all fun x => hasP b x
theorem inP_iff {a b : List Pid} : inP a b = true ↔ ∀ x ∈ a, x ∈ b := by simp [inP, hasP]
def withinB (a b : List Pid) : Bool := srtB a && (srtB b && inP a b)
/-- The set that idSetOf returns. -/
def setF (L : List Pid) : Nat → Nat := fun r => if srtB L = true then mask L r else 0
theorem setF_t {L : List Pid} (h : srtB L = true) : setF L = mask L := by funext r; exact if_pos h
theorem setF_f {L : List Pid} (h : srtB L = false) : setF L = fun _ => 0 := by funext r; exact if_neg (by rw [h]; decide)
theorem setF_lt (L : List Pid) (r : Nat) : setF L r < 2251799813685248 := by
  unfold setF; split
  · rename_i h; exact mask_lt (srt_of h).2.1 r
  · decide
theorem id_nat {x : Pid} (h : okP x = true) : ∃ r n : Nat, x = ((r : Int), (n : Int)) ∧ r < 5 ∧ 1 ≤ n ∧ n ≤ 50 := by
  have := okP_of h
  obtain ⟨p, q⟩ := x
  dsimp only at this
  exact ⟨p.toNat, q.toNat, by rw [Int.toNat_of_nonneg (by omega), Int.toNat_of_nonneg (by omega)], by omega, by omega, by omega⟩
theorem or_in {a b : List Pid} (ha : a.all okP = true) (hb : b.all okP = true) : (∀ r, r < 5 → mask a r ||| mask b r = mask b r) ↔ inP a b = true := by
  rw [inP_iff]
  constructor
  · intro h x hx
    obtain ⟨r, n, rfl, hr, _⟩ := id_nat (List.all_eq_true.1 ha x hx)
    have := (mask_bit ha r n).2 hx
    rw [← mask_bit hb, ← h r hr, Nat.testBit_or, this]; rfl
  · intro h r _
    apply Nat.eq_of_testBit_eq
    intro n
    rw [Nat.testBit_or]
    cases e : (mask a r).testBit n with
    | false => rfl
    | true => rw [(mask_bit hb r n).2 (h _ ((mask_bit ha r n).1 e))]; rfl
theorem within_set (a b : List Pid) (ha : srtB a = true) (hb : srtB b = true) : (∀ r, r < 5 → setF a r ||| setF b r = setF b r) ↔ inP a b = true := by
  rw [setF_t ha, setF_t hb]; exact or_in (srt_of ha).2.1 (srt_of hb).2.1
end Go.Proofs.Ytblkpkjgmjnimaa

/- Plain facts: nodes, what they reach, groups, and the order in which they run. -/
namespace Go.Proofs.Ytblkpkjgmjnimaa
set_option linter.unusedVariables false

/-- A node. -/
structure Nd where
  id : Pid
  seq : Int
  deps : List Pid
def nd0 : Nd := ⟨nop, 0, []⟩
def idsN (N : List Nd) : List Pid := N.map Nd.id
def ndB (x : Nd) : Bool := okP x.id && (decide (1 ≤ x.seq ∧ x.seq ≤ 99) && (srtB x.deps && !hasP x.deps x.id))
/-- What valid nodes are. -/
def nodB (N : List Nd) : Bool := decide (N.length ≤ 12) && (N.all ndB && ascB (idsN N))
theorem nod_of {N : List Nd} (h : nodB N = true) : N.length ≤ 12 ∧ (∀ x ∈ N, ndB x = true) ∧ Asc (idsN N) := by
  simp only [nodB, Bool.and_eq_true, decide_eq_true_eq] at h
  exact ⟨h.1, List.all_eq_true.1 h.2.1, ascB_asc h.2.2⟩
theorem nod_to {N : List Nd} (h1 : N.length ≤ 12) (h2 : ∀ x ∈ N, ndB x = true) (h3 : Asc (idsN N)) : nodB N = true := by
  simp only [nodB, Bool.and_eq_true, decide_eq_true_eq]
  exact ⟨h1, List.all_eq_true.2 h2, asc_ascB h3⟩
theorem nod_no {N : List Nd} (h : ¬ (N.length ≤ 12 ∧ (∀ x ∈ N, ndB x = true) ∧ Asc (idsN N))) : nodB N = false := by
  cases e : nodB N with
  | false => rfl
  | true => exact absurd (nod_of e) h
theorem getD_mem {N : List Nd} {k : Nat} (hk : k < N.length) : N.getD k nd0 ∈ N := by
  rw [List.getD_eq_getElem?_getD, List.getElem?_eq_getElem hk]; exact List.getElem_mem hk
theorem mem_getD {N : List Nd} {x : Nd} (h : x ∈ N) : ∃ k, k < N.length ∧ N.getD k nd0 = x := by
  obtain ⟨k, hk, e⟩ := List.getElem_of_mem h
  exact ⟨k, hk, by rw [List.getD_eq_getElem?_getD, List.getElem?_eq_getElem hk]; exact e⟩
theorem idsN_len (N : List Nd) : (idsN N).length = N.length := List.length_map _
theorem idsN_get {N : List Nd} {k : Nat} (hk : k < N.length) : (idsN N).getD k nop = (N.getD k nd0).id := by
  unfold idsN
  rw [List.getD_eq_getElem?_getD, List.getD_eq_getElem?_getD, List.getElem?_map, List.getElem?_eq_getElem hk]; rfl
theorem mem_idsN {N : List Nd} {a : Pid} : a ∈ idsN N ↔ ∃ k, k < N.length ∧ (N.getD k nd0).id = a := by
  unfold idsN
  rw [List.mem_map]
  constructor
  · rintro ⟨x, hx, rfl⟩
    obtain ⟨k, hk, rfl⟩ := mem_getD hx
    exact ⟨k, hk, rfl⟩
  · rintro ⟨k, hk, rfl⟩; exact ⟨_, getD_mem hk, rfl⟩
theorem nod_bad {N : List Nd} {k : Nat} (hk : k < N.length) (h : ndB (N.getD k nd0) = false) : nodB N = false := nod_no fun x => by
  have := x.2.1 _ (getD_mem hk); rw [h] at this; cases this
theorem nod_turn {N : List Nd} {k : Nat} (hk : k + 1 < N.length) (h : ltP (N.getD k nd0).id (N.getD (k + 1) nd0).id = false) : nodB N = false := nod_no fun x => by
  have := asc_lt x.2.2 (Nat.lt_succ_self k) (by rw [idsN_len]; exact hk)
  rw [idsN_get hk, idsN_get (by omega), h] at this; cases this
theorem nod_long {N : List Nd} (h : ¬ N.length ≤ 12) : nodB N = false := nod_no fun x => h x.1
theorem nod_good {N : List Nd} (h1 : N.length ≤ 12) (h2 : ∀ k, k < N.length → ndB (N.getD k nd0) = true) (h3 : ∀ k, k + 1 < N.length → ltP (N.getD k nd0).id (N.getD (k + 1) nd0).id = true) : nodB N = true := by
  refine nod_to h1 (fun x hx => ?_) (asc_adj fun i hi => ?_)
  · obtain ⟨k, hk, rfl⟩ := mem_getD hx
    exact h2 k hk
  · rw [idsN_len] at hi
    rw [idsN_get hi, idsN_get (by omega)]; exact h3 i hi
theorem nod_inj {N : List Nd} (h : nodB N = true) {i j : Nat} (hi : i < N.length) (hj : j < N.length) (e : (N.getD i nd0).id = (N.getD j nd0).id) : i = j := by
  have ha := (nod_of h).2.2
  rcases Nat.lt_trichotomy i j with hl | hl | hl
  · have := asc_lt ha hl (by rw [idsN_len]; exact hj)
    rw [idsN_get hi, idsN_get hj, e, ltP_irr] at this; cases this
  · exact hl
  · have := asc_lt ha hl (by rw [idsN_len]; exact hi)
    rw [idsN_get hi, idsN_get hj, e, ltP_irr] at this; cases this
theorem nod_lt {N : List Nd} (h : nodB N = true) {i j : Nat} (hi : i < N.length) (hj : j < N.length) : ltP (N.getD i nd0).id (N.getD j nd0).id = true ↔ i < j := by
  have ha := (nod_of h).2.2
  constructor
  · intro hl
    rcases Nat.lt_trichotomy i j with h1 | h1 | h1
    · exact h1
    · subst h1; rw [ltP_irr] at hl; cases hl
    · have := asc_lt ha h1 (by rw [idsN_len]; exact hi)
      rw [idsN_get hi, idsN_get hj] at this
      rw [ltP_asym this] at hl; cases hl
  · intro hl
    have := asc_lt ha hl (by rw [idsN_len]; exact hj)
    rw [idsN_get hi, idsN_get hj] at this; exact this

/-- A node depends on another node. -/
def EI (N : List Nd) (a b : Pid) : Prop := b ∈ idsN N ∧ ∃ x ∈ N, x.id = a ∧ b ∈ x.deps
theorem EI.l {N : List Nd} {a b : Pid} (h : EI N a b) : a ∈ idsN N := by obtain ⟨_, x, hx, rfl, _⟩ := h; exact List.mem_map_of_mem hx
theorem EI.r {N : List Nd} {a b : Pid} (h : EI N a b) : b ∈ idsN N := h.1
theorem rt_in {N : List Nd} {a b : Pid} (h : Rt (EI N) a b) (ha : a ∈ idsN N) : b ∈ idsN N := h.closed (P := fun c => c ∈ idsN N) (fun _ _ _ e => e.r) ha
theorem rp_l {N : List Nd} {a b : Pid} (h : Rp (EI N) a b) : a ∈ idsN N := by obtain ⟨c, h1, _⟩ := h; exact h1.l
theorem rp_r {N : List Nd} {a b : Pid} (h : Rp (EI N) a b) : b ∈ idsN N := rt_in h.rt (rp_l h)
theorem sc_in {N : List Nd} {a b : Pid} (h : Sc (EI N) a b) (ha : a ∈ idsN N) : b ∈ idsN N := rt_in h.1 ha
/-- All that a node itself depends on are nodes. -/
def OkI (N : List Nd) (a : Pid) : Prop := ∀ x ∈ N, x.id = a → ∀ d ∈ x.deps, d ∈ idsN N
def RdI (N : List Nd) (a : Pid) : Prop := ∀ b, Rt (EI N) a b → OkI N b
theorem RdI.on {N : List Nd} {a b : Pid} (h : RdI N a) (g : Rt (EI N) a b) : RdI N b := fun c hc => h c (g.trans hc)

theorem getD_uniq {N : List Nd} (h : nodB N = true) {x y : Nd} (hx : x ∈ N) (hy : y ∈ N) (e : x.id = y.id) : x = y := by
  obtain ⟨i, hi, rfl⟩ := mem_getD hx
  obtain ⟨j, hj, rfl⟩ := mem_getD hy
  rw [nod_inj h hi hj e]

open Classical in
/-- The nodes with a property, in order. -/
noncomputable def selP (N : List Nd) (P : Pid → Prop) : List Pid := (idsN N).filter fun a => decide (P a)
theorem mem_selP {N : List Nd} {P : Pid → Prop} {a : Pid} : a ∈ selP N P ↔ a ∈ idsN N ∧ P a := by
  unfold selP; rw [List.mem_filter]; simp
theorem selP_asc {N : List Nd} (h : Asc (idsN N)) (P : Pid → Prop) : Asc (selP N P) := List.Pairwise.filter _ h
theorem selP_ext {N : List Nd} (h : Asc (idsN N)) {P : Pid → Prop} {L : List Pid} (hL : Asc L) (hm : ∀ a, a ∈ L ↔ a ∈ idsN N ∧ P a) : L = selP N P :=
  asc_ext hL (selP_asc h P) fun a => by rw [hm, mem_selP]
theorem selP_len (N : List Nd) (P : Pid → Prop) : (selP N P).length ≤ N.length := by
  unfold selP; rw [← idsN_len]; exact List.length_filter_le _ _
open Classical in
/-- What NodesReach, NodesGroup and NodesReady answer. -/
noncomputable def reachR (N : List Nd) (a : Pid) : List Pid := if nodB N = true then selP N (Rp (EI N) a) else []
open Classical in
noncomputable def groupR (N : List Nd) (a : Pid) : List Pid := if nodB N = true ∧ a ∈ idsN N then selP N (Sc (EI N) a) else []
open Classical in
noncomputable def readyR (N : List Nd) (a : Pid) : Bool := decide (nodB N = true ∧ a ∈ idsN N ∧ RdI N a)
theorem reachR_asc (N : List Nd) (a : Pid) : Asc (reachR N a) := by
  unfold reachR; split
  · rename_i h; exact selP_asc (nod_of h).2.2 _
  · exact asc_nil
theorem groupR_asc (N : List Nd) (a : Pid) : Asc (groupR N a) := by
  unfold groupR; split
  · rename_i h; exact selP_asc (nod_of h.1).2.2 _
  · exact asc_nil
theorem mem_reachR {N : List Nd} {a b : Pid} : b ∈ reachR N a ↔ nodB N = true ∧ Rp (EI N) a b := by
  unfold reachR; split
  · rename_i h; rw [mem_selP]; exact ⟨fun x => ⟨h, x.2⟩, fun x => ⟨rp_r x.2, x.2⟩⟩
  · rename_i h; simp [h]
theorem mem_groupR {N : List Nd} {a b : Pid} : b ∈ groupR N a ↔ nodB N = true ∧ a ∈ idsN N ∧ Sc (EI N) a b := by
  unfold groupR; split
  · rename_i h; rw [mem_selP]; exact ⟨fun x => ⟨h.1, h.2, x.2⟩, fun x => ⟨sc_in x.2.2 h.2, x.2.2⟩⟩
  · rename_i h; simp only [List.not_mem_nil, false_iff]; exact fun x => h ⟨x.1, x.2.1⟩
open Classical in
theorem readyR_iff {N : List Nd} {a : Pid} : readyR N a = true ↔ nodB N = true ∧ a ∈ idsN N ∧ RdI N a := by simp only [readyR, decide_eq_true_eq]
theorem reachR_len (N : List Nd) (a : Pid) : (reachR N a).length ≤ 12 := by
  unfold reachR; split
  · rename_i h; have := selP_len N (Rp (EI N) a); have := (nod_of h).1; omega
  · simp
theorem groupR_len (N : List Nd) (a : Pid) : (groupR N a).length ≤ 12 := by
  unfold groupR; split
  · rename_i h; have := selP_len N (Sc (EI N) a); have := (nod_of h.1).1; omega
  · simp

/-- The rank of a node. -/
def seqP (N : List Nd) (a : Pid) : Int := ((N.find? fun x => decide (x.id = a)).getD nd0).seq
theorem seqP_of {N : List Nd} (h : nodB N = true) {x : Nd} (hx : x ∈ N) : seqP N x.id = x.seq := by
  unfold seqP
  cases hf : N.find? (fun y => decide (y.id = x.id)) with
  | none => have := List.find?_eq_none.1 hf x hx; simp at this
  | some y =>
    have h1 := List.mem_of_find?_eq_some hf
    have h2 : y.id = x.id := by simpa using List.find?_some hf
    rw [getD_uniq h h1 hx h2]; rfl
/-- Sooner by rank, then by id. -/
def Soon (N : List Nd) (a b : Pid) : Prop := seqP N a < seqP N b ∨ seqP N a = seqP N b ∧ ltP a b = true
theorem Soon.asym {N : List Nd} {a b : Pid} (h : Soon N a b) : ¬ Soon N b a := by
  rintro (g | ⟨g1, g2⟩)
  · rcases h with h | ⟨h1, _⟩ <;> omega
  · rcases h with h | ⟨_, h2⟩
    · omega
    · rw [ltP_asym h2] at g2; cases g2
theorem Soon.trans {N : List Nd} {a b c : Pid} (h : Soon N a b) (g : Soon N b c) : Soon N a c := by
  rcases h with h | ⟨h1, h2⟩ <;> rcases g with g | ⟨g1, g2⟩
  · exact .inl (by omega)
  · exact .inl (by omega)
  · exact .inl (by omega)
  · exact .inr ⟨by omega, ltP_trans h2 g2⟩
theorem Soon.tri (N : List Nd) (a b : Pid) : Soon N a b ∨ a = b ∨ Soon N b a := by
  by_cases h1 : seqP N a < seqP N b
  · exact .inl (.inl h1)
  · by_cases h2 : seqP N b < seqP N a
    · exact .inr (.inr (.inl h2))
    · have e : seqP N a = seqP N b := by omega
      by_cases h3 : ltP a b = true
      · exact .inl (.inr ⟨e, h3⟩)
      · by_cases h4 : ltP b a = true
        · exact .inr (.inr (.inr ⟨e.symm, h4⟩))
        · exact .inr (.inl (ltP_tri (by simpa using h3) (by simpa using h4)))
theorem soon_ext {N : List Nd} : ∀ {A B : List Pid}, A.Pairwise (Soon N) → B.Pairwise (Soon N) → (∀ x, x ∈ A ↔ x ∈ B) → A = B
  | [], [], _, _, _ => rfl
  | [], b :: s, _, _, h => absurd ((h b).2 List.mem_cons_self) (by simp)
  | a :: r, [], _, _, h => absurd ((h a).1 List.mem_cons_self) (by simp)
  | a :: r, b :: s, hA, hB, h => by
    have hA' := List.pairwise_cons.1 hA
    have hB' := List.pairwise_cons.1 hB
    have e : a = b := by
      rcases List.mem_cons.1 ((h a).1 List.mem_cons_self) with e | ha
      · exact e
      · rcases List.mem_cons.1 ((h b).2 List.mem_cons_self) with e | hb
        · exact e.symm
        · exact absurd (hB'.1 a ha) (hA'.1 b hb).asym
    subst e
    have nr : ¬ a ∈ r := fun hx => (hA'.1 a hx).asym (hA'.1 a hx)
    have ns : ¬ a ∈ s := fun hx => (hB'.1 a hx).asym (hB'.1 a hx)
    rw [soon_ext hA'.2 hB'.2 (fun x => ?_)]
    constructor
    · intro hx
      rcases List.mem_cons.1 ((h x).1 (List.mem_cons_of_mem _ hx)) with e | hx'
      · subst e; exact absurd hx nr
      · exact hx'
    · intro hx
      rcases List.mem_cons.1 ((h x).2 (List.mem_cons_of_mem _ hx)) with e | hx'
      · subst e; exact absurd hx ns
      · exact hx'
theorem soon_nodup {N : List Nd} {A : List Pid} (h : A.Pairwise (Soon N)) : A.Nodup := List.Pairwise.imp (fun {a b} hab e => by subst e; exact hab.asym hab) h

/-- Has not run, and may run. -/
def FreeI (N : List Nd) (R : Pid → Prop) (a : Pid) : Prop := a ∈ idsN N ∧ ¬ R a ∧ RdI N a ∧ ∀ b, Rp (EI N) a b → R b ∨ Sc (EI N) a b
/-- How nodes run, when some have run. -/
inductive Ord (N : List Nd) : (Pid → Prop) → List Pid → Prop
  | stop (R : Pid → Prop) (h : ∀ a, ¬ FreeI N R a) : Ord N R []
  | run (R : Pid → Prop) (a : Pid) (M L : List Pid) (hi : FreeI N R a) (hf : ∀ b, FreeI N R b → b = a ∨ Soon N a b) (hM : ∀ b, b ∈ M ↔ Sc (EI N) a b) (hs : M.Pairwise (Soon N)) (t : Ord N (fun b => R b ∨ b ∈ M) L) : Ord N R (M ++ L)
theorem Ord.det {N : List Nd} {R : Pid → Prop} {L L' : List Pid} (h : Ord N R L) (g : Ord N R L') : L = L' := by
  induction h generalizing L' with
  | stop R h =>
    cases g with
    | stop => rfl
    | run _ a M L hi => exact absurd hi (h a)
  | run R a M L hi hf hM hs t ih =>
    cases g with
    | stop _ h => exact absurd hi (h a)
    | run _ a' M' L'' hi' hf' hM' hs' t' =>
      have e : a = a' := by
        rcases hf a' hi' with e | e
        · exact e.symm
        · rcases hf' a hi with e' | e'
          · exact e'
          · exact absurd e' e.asym
      subst e
      have e : M = M' := soon_ext hs hs' fun x => by rw [hM, hM']
      subst e
      rw [ih t']
/-- What has run is closed: whole groups, with all that they reach. -/
def Clo (N : List Nd) (R : Pid → Prop) : Prop := ∀ a b, R a → Rt (EI N) a b → R b
theorem clo_none (N : List Nd) : Clo N (fun _ => False) := fun _ _ h _ => h
theorem FreeI.clo {N : List Nd} {R : Pid → Prop} {a : Pid} {M : List Pid} (hi : FreeI N R a) (hM : ∀ b, b ∈ M ↔ Sc (EI N) a b) (hc : Clo N R) : Clo N (fun b => R b ∨ b ∈ M) := by
  intro x y hx hy
  rcases hx with hx | hx
  · exact .inl (hc x y hx hy)
  · have hx' := (hM x).1 hx
    have hay : Rt (EI N) a y := hx'.1.trans hy
    rcases hay.cases with e | e
    · subst e; exact .inr ((hM _).2 (.refl _))
    · rcases hi.2.2.2 y e with h | h
      · exact .inl h
      · exact .inr ((hM y).2 h)
theorem FreeI.new {N : List Nd} {R : Pid → Prop} {a : Pid} {M : List Pid} (hi : FreeI N R a) (hM : ∀ b, b ∈ M ↔ Sc (EI N) a b) (hc : Clo N R) : ∀ b ∈ M, ¬ R b ∧ b ∈ idsN N ∧ RdI N b := by
  intro b hb
  have hs := (hM b).1 hb
  exact ⟨fun h => hi.2.1 (hc b a h hs.2), sc_in hs hi.1, hi.2.2.1.on hs.1⟩
/-- If some that is ready has not run, one is free. -/
theorem free_some {N : List Nd} {R : Pid → Prop} : ∀ (k : Nat) (a : Pid), (selP N (Rt (EI N) a)).length ≤ k → a ∈ idsN N → RdI N a → ¬ R a → ∃ b, FreeI N R b
  | 0, a, hk, ha, _, _ => by
    have : a ∈ selP N (Rt (EI N) a) := mem_selP.2 ⟨ha, .refl _⟩
    rw [List.length_eq_zero_iff.1 (Nat.le_zero.1 hk)] at this; cases this
  | k + 1, a, hk, ha, hr, hn => by
    by_cases h : ∃ b, Rp (EI N) a b ∧ ¬ R b ∧ ¬ Sc (EI N) a b
    · obtain ⟨b, h1, h2, h3⟩ := h
      refine free_some k b ?_ (rp_r h1) (hr.on h1.rt) h2
      have hlt : (selP N (Rt (EI N) b)).length < (selP N (Rt (EI N) a)).length := by
        have hsub : ∀ x, Rt (EI N) b x → Rt (EI N) a x := fun x hx => h1.rt.trans hx
        have hna : ¬ Rt (EI N) b a := fun hh => h3 ⟨h1.rt, hh⟩
        unfold selP
        rw [← List.countP_eq_length_filter, ← List.countP_eq_length_filter]
        clear hk
        generalize idsN N = I at ha
        induction I with
        | nil => cases ha
        | cons y I ih =>
          rw [List.countP_cons, List.countP_cons]
          have hle : ∀ I : List Pid, I.countP (fun a_1 => @decide (Rt (EI N) b a_1) (Classical.propDecidable _)) ≤ I.countP (fun a_1 => @decide (Rt (EI N) a a_1) (Classical.propDecidable _)) := fun I => List.countP_mono_left fun x _ hx => by
            simp only [decide_eq_true_eq] at hx ⊢; exact hsub x hx
          have := hle I
          rcases List.mem_cons.1 ha with e | e
          · subst e
            simp [hna, Rt.refl]; omega
          · have := ih e
            by_cases hy : Rt (EI N) b y
            · simp only [hy, hsub y hy, decide_true, if_true]; omega
            · simp only [hy, decide_false]; split <;> split <;> simp_all <;> omega
      omega
    · refine ⟨a, ha, hn, hr, fun b hb => ?_⟩
      by_cases h1 : R b
      · exact .inl h1
      · by_cases h2 : Sc (EI N) a b
        · exact .inr h2
        · exact absurd ⟨b, hb, h1, h2⟩ h
/-- Exactly what is ready runs. -/
theorem Ord.mem {N : List Nd} {R : Pid → Prop} {L : List Pid} (h : Ord N R L) (hc : Clo N R) : ∀ a, a ∈ L ↔ a ∈ idsN N ∧ RdI N a ∧ ¬ R a := by
  induction h with
  | stop R h =>
    intro a
    refine ⟨fun x => absurd x (by simp), ?_⟩
    rintro ⟨h1, h2, h3⟩
    obtain ⟨b, hb⟩ := free_some _ a (Nat.le_refl _) h1 h2 h3
    exact absurd hb (h b)
  | run R a M L hi hf hM hs t ih =>
    intro b
    rw [List.mem_append, ih (hi.clo hM hc) b]
    have hn := hi.new hM hc
    constructor
    · rintro (hb | ⟨h1, h2, h3⟩)
      · exact ⟨(hn b hb).2.1, (hn b hb).2.2, (hn b hb).1⟩
      · exact ⟨h1, h2, fun hh => h3 (.inl hh)⟩
    · rintro ⟨h1, h2, h3⟩
      by_cases hb : b ∈ M
      · exact .inl hb
      · exact .inr ⟨h1, h2, fun hh => hh.elim h3 hb⟩
theorem Ord.nodup {N : List Nd} {R : Pid → Prop} {L : List Pid} (h : Ord N R L) (hc : Clo N R) : L.Nodup := by
  induction h with
  | stop => exact List.nodup_nil
  | run R a M L hi hf hM hs t ih =>
    have hc' := hi.clo hM hc
    refine List.nodup_append.2 ⟨soon_nodup hs, ih hc', fun x hx y hy e => ?_⟩
    subst e
    exact ((t.mem hc' x).1 hy).2.2 (.inr hx)
/-- What is depended on runs first. -/
theorem Ord.deps {N : List Nd} {R : Pid → Prop} {L : List Pid} (h : Ord N R L) : ∀ A m B, L = A ++ m :: B → ∀ x, Rp (EI N) m x → Sc (EI N) m x ∨ R x ∨ x ∈ A := by
  induction h with
  | stop => intro A m B e; simp at e
  | run R a M L hi hf hM hs t ih =>
    intro A m B e x hx
    rcases List.append_eq_append_iff.1 e with ⟨C, h1, h2⟩ | ⟨C, h1, h2⟩
    · -- A = M ++ C
      rcases ih C m B h2 x hx with h | h | h
      · exact .inl h
      · rcases h with h | h
        · exact .inr (.inl h)
        · exact .inr (.inr (by rw [h1]; exact List.mem_append_left _ h))
      · exact .inr (.inr (by rw [h1]; exact List.mem_append_right _ h))
    · -- M = A ++ C, C ++ L = m :: B
      cases C with
      | nil =>
        simp at h1 h2
        rcases ih [] m B (by simpa using h2.symm) x hx with h | h | h
        · exact .inl h
        · rcases h with h | h
          · exact .inr (.inl h)
          · exact .inr (.inr (by rw [← h1]; exact h))
        · cases h
      | cons c C =>
        have e' : m = c := by simp at h2; exact h2.1
        subst e'
        have hm : m ∈ M := by rw [h1]; exact List.mem_append_right _ List.mem_cons_self
        have hs' := (hM m).1 hm
        rcases hi.2.2.2 x (hs'.1.rp hx) with h | h
        · exact .inr (.inl h)
        · exact .inl (hs'.symm.trans h)
/-- A group runs together, by rank. -/
theorem Ord.grp {N : List Nd} {R : Pid → Prop} {L : List Pid} (h : Ord N R L) (hc : Clo N R) : ∀ A m B, L = A ++ m :: B → (∀ x ∈ A, Sc (EI N) m x → Soon N x m) ∧ (∀ A' p, A = A' ++ [p] → ¬ Sc (EI N) m p → ∀ x ∈ A, ¬ Sc (EI N) m x) := by
  induction h with
  | stop => intro A m B e; simp at e
  | run R a M L hi hf hM hs t ih =>
    intro A m B e
    have hc' := hi.clo hM hc
    have out : ∀ m, m ∈ L → ∀ x ∈ M, ¬ Sc (EI N) m x := fun m hm x hx hsc =>
      ((t.mem hc' m).1 hm).2.2 (.inr ((hM m).2 (((hM x).1 hx).trans hsc.symm)))
    rcases List.append_eq_append_iff.1 e with ⟨C, h1, h2⟩ | ⟨C, h1, h2⟩
    · have hm : m ∈ L := by rw [h2]; exact List.mem_append_right _ List.mem_cons_self
      obtain ⟨i1, i2⟩ := ih hc' C m B h2
      subst h1
      refine ⟨fun x hx hsc => ?_, fun A' p e' hp x hx => ?_⟩
      · rcases List.mem_append.1 hx with hx | hx
        · exact absurd hsc (out m hm x hx)
        · exact i1 x hx hsc
      · rcases List.mem_append.1 hx with hx | hx
        · exact out m hm x hx
        · cases hC : C.reverse with
          | nil => rw [List.reverse_eq_nil_iff.1 hC] at hx; cases hx
          | cons q Q =>
            have hCe : C = Q.reverse ++ [q] := by
              have := congrArg List.reverse hC; simpa using this
            rw [hCe, ← List.append_assoc] at e'
            obtain ⟨_, e2⟩ := List.append_inj' e' rfl
            have : q = p := by simpa using e2
            subst this
            exact i2 _ q hCe hp x hx
    · cases C with
      | nil =>
        simp at h1 h2
        have hm : m ∈ L := by rw [← h2]; exact List.mem_cons_self
        exact ⟨fun x hx hsc => absurd hsc (out m hm x (by rw [h1]; exact hx)), fun A' p e' hp x hx => out m hm x (by rw [h1]; exact hx)⟩
      | cons c C =>
        have e' : m = c := by simp at h2; exact h2.1
        subst e'
        have hm : m ∈ M := by rw [h1]; exact List.mem_append_right _ List.mem_cons_self
        have hs2 := List.pairwise_append.1 (by rw [← h1]; exact hs)
        have hsc : ∀ x ∈ A, Sc (EI N) m x := fun x hx => ((hM m).1 hm).symm.trans ((hM x).1 (by rw [h1]; exact List.mem_append_left _ hx))
        refine ⟨fun x hx _ => hs2.2.2 x hx m List.mem_cons_self, fun A' p e' hp x hx => absurd (hsc p (by rw [e']; exact List.mem_append_right _ (List.mem_singleton.2 rfl))) hp⟩
end Go.Proofs.Ytblkpkjgmjnimaa
