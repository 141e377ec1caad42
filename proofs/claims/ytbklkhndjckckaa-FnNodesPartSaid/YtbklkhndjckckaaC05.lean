/- Texts laid together. -/
import Derived.Test.YtbklkhndjckckaaC04
import Derived.Test.YtbklkhndjckckaaC03
import Derived.Deep.RegionLaw
/- The program's join of two sets. -/
namespace Go.Proofs.Ytbklkhndjckckaa
open Go.RowKit
set_option linter.unusedVariables false

theorem sx_i0 (x0 x1 x2 x3 x4 : Value) (w : World) : (Instr.index 56 (.agg #[x0, x1, x2, x3, x4]) (.int .i64 0)).run Try.prog w = .ok x0 w := by kernel_rfl
theorem sx_i1 (x0 x1 x2 x3 x4 : Value) (w : World) : (Instr.index 56 (.agg #[x0, x1, x2, x3, x4]) (.int .i64 1)).run Try.prog w = .ok x1 w := by kernel_rfl
theorem sx_i2 (x0 x1 x2 x3 x4 : Value) (w : World) : (Instr.index 56 (.agg #[x0, x1, x2, x3, x4]) (.int .i64 2)).run Try.prog w = .ok x2 w := by kernel_rfl
theorem sx_i3 (x0 x1 x2 x3 x4 : Value) (w : World) : (Instr.index 56 (.agg #[x0, x1, x2, x3, x4]) (.int .i64 3)).run Try.prog w = .ok x3 w := by kernel_rfl
theorem sx_i4 (x0 x1 x2 x3 x4 : Value) (w : World) : (Instr.index 56 (.agg #[x0, x1, x2, x3, x4]) (.int .i64 4)).run Try.prog w = .ok x4 w := by kernel_rfl

theorem join_res (tm : Array Value) (w : World) (b : Nat) (g : Nat → Nat) (h4 : tm[4]? = some (.pointer (some ⟨b, 0, none⟩))) (h : Set5 w b g) :
    (results Try.f34 tm).run Try.prog w = .ok (setV g) w := by
  obtain ⟨t0, t1, t2, t3, t4⟩ := h.five
  simp [results, Try.results34, go_sem, setV, h4, t0, t1, t2, t3, t4]

def joinF (f g : Nat → Nat) : Nat → Nat := fun r => f r ||| g r

set_option maxRecDepth 100000 in
set_option maxHeartbeats 4000000 in
theorem join_any (f g : Nat → Nat) (w : World) (hf : ∀ r, f r < 2251799813685248) (hg : ∀ r, g r < 2251799813685248) :
    Calls Try.prog 34 #[setV f, setV g] w fun e w' => e = .returned (setV (joinF f g)) ∧ Below w.heap.size w w' := by
  have ob : ∀ r, bits .or .u64 (f r : Int) (g r : Int) = ((joinF f g r : Nat) : Int) := fun r => bits_or_u64_nat _ _ (by have := hf r; omega) (by have := hg r; omega)
  have o0 := ob 0; have o1 := ob 1; have o2 := ob 2; have o3 := ob 3; have o4 := ob 4
  clear ob hf hg
  unfold setV
  obtain ⟨j, hj⟩ : ∃ j, Hid (joinF f g = j) := ⟨_, Lib.hid rfl⟩
  rw [hj.out] at o0 o1 o2 o3 o4 ⊢
  have k0 := fun w => sx_i0 (.int .u64 (g 0)) (.int .u64 (g 1)) (.int .u64 (g 2)) (.int .u64 (g 3)) (.int .u64 (g 4)) w
  have k1 := fun w => sx_i1 (.int .u64 (g 0)) (.int .u64 (g 1)) (.int .u64 (g 2)) (.int .u64 (g 3)) (.int .u64 (g 4)) w
  have k2 := fun w => sx_i2 (.int .u64 (g 0)) (.int .u64 (g 1)) (.int .u64 (g 2)) (.int .u64 (g 3)) (.int .u64 (g 4)) w
  have k3 := fun w => sx_i3 (.int .u64 (g 0)) (.int .u64 (g 1)) (.int .u64 (g 2)) (.int .u64 (g 3)) (.int .u64 (g 4)) w
  have k4 := fun w => sx_i4 (.int .u64 (g 0)) (.int .u64 (g 1)) (.int .u64 (g 2)) (.int .u64 (g 3)) (.int .u64 (g 4)) w
  go_enter Try.func34, Try.ntmps34
  go_wp2_with fail
  refine wp_loop_rounds 6 ?_
  rw [rounds_succ]
  go_wp2_with fail
  rw [rounds_succ]
  go_wp2_with fail
  rw [rounds_succ]
  go_wp2_with fail
  rw [rounds_succ]
  go_wp2_with fail
  rw [rounds_succ]
  go_wp2_with fail
  rw [rounds_succ]
  go_wp2_with fail
  exact bodyPost_ret (join_res _ _ (w.heap.size + 1 + 1) j rfl (heap_alloc_at _ _ _ (by simp))) rfl ⟨rfl, (((Below.refl _ _).alloc (Nat.le_refl _) _).alloc (by simp) _).alloc (by simp; omega) _⟩
end Go.Proofs.Ytbklkhndjckckaa

/- The program's gather: facts of its loops. -/
namespace Go.Proofs.Ytbklkhndjckckaa
open Go.RowKit
set_option linter.unusedVariables false

theorem infoN : (Try.prog.info? 33).map (fun i => (i.zero, i.size, i.bytes)) = some (some (.agg #[.int .i64 0, .int .i64 0, .int .i64 0, .slice none 0 0]), 4, 48) := by kernel_rfl
theorem infoG : (Try.prog.info? 57).map (fun i => (i.zero, i.size, i.bytes)) = some (some (.pointer none), 1, 8) := by kernel_rfl

def flatN (N : List Nd) (U : Us) (Q : List Nat) : List Value := Q.flatMap (ndc N U)
theorem flatN_app (N : List Nd) (U : Us) (A B : List Nat) : flatN N U (A ++ B) = flatN N U A ++ flatN N U B := List.flatMap_append
theorem flatN_len (N : List Nd) (U : Us) : ∀ Q : List Nat, (flatN N U Q).length = Q.length * 4
  | [] => rfl
  | a :: Q => by
    show (ndc N U a ++ flatN N U Q).length = _
    rw [List.length_append, flatN_len N U Q, List.length_cons]; show 4 + _ = _; omega
theorem flatN_get (N : List Nd) (U : Us) : ∀ (Q : List Nat) (i j : Nat), i < Q.length → j < 4 → (flatN N U Q)[i * 4 + j]? = (ndc N U (Q.getD i 0))[j]?
  | [], i, j, h, _ => absurd h (Nat.not_lt_zero _)
  | a :: Q, 0, j, h, hj => by
    show (ndc N U a ++ flatN N U Q)[0 * 4 + j]? = _
    rw [List.getElem?_append_left (by show 0 * 4 + j < 4; omega)]; simp
  | a :: Q, i + 1, j, h, hj => by
    show (ndc N U a ++ flatN N U Q)[(i + 1) * 4 + j]? = _
    rw [List.getElem?_append_right (by show 4 ≤ _; omega)]
    have : (i + 1) * 4 + j - (ndc N U a).length = i * 4 + j := by show (i + 1) * 4 + j - 4 = _; omega
    rw [this, flatN_get N U Q i j (by simpa using h) hj]
    simp
theorem ndc_len (N : List Nd) (U : Us) (k : Nat) : (ndc N U k).length = 4 := rfl
theorem ndc_one (N : List Nd) (U : Us) (k : Nat) : ∀ u ∈ ndc N U k, u.oneCell' = true := by
  intro u hu
  simp only [ndc, List.mem_cons, List.not_mem_nil, or_false] at hu
  rcases hu with rfl | rfl | rfl | rfl <;> rfl

/-- A row of nodes as the walk of sorting wants it. -/
theorem rowN_of {w : World} {B : Nat} {v : Value} {N : List Nd} {U : Us} {Q : List Nat} (h : w.ownsRow B 33 4 v Q.length (flatN N U Q)) (hQ : 0 < Q.length) :
    ∃ mb cap, v = .slice (some ⟨mb, 0, none⟩) Q.length cap ∧ B ≤ mb ∧ RowN w mb N U Q ∧ Typ w mb 33 ∧ Q.length ≤ cap := by
  rcases h.2 with ⟨_, h0⟩ | ⟨g, cap, cur, rfl, hb, hg, hn, hm, hs, ht⟩
  · omega
  · refine ⟨g, cap, rfl, hb, ⟨cur, hg, fun i hi j hj => ?_⟩, ⟨cur, hg⟩, hn⟩
    rw [← flatN_get N U Q i j hi hj, ← ht, List.getElem?_take, if_pos (by omega)]
    simp
theorem RowN.typ {w : World} {mb : Nat} {N : List Nd} {U : Us} {Q : List Nat} (h : RowN w mb N U Q) : Typ w mb 33 := by obtain ⟨cur, h, _⟩ := h.blk; exact ⟨cur, h⟩
theorem take_snoc {S : List Nat} {k : Nat} (hk : k < S.length) : S.take (k + 1) = S.take k ++ [S.getD k 0] := by
  rw [List.take_succ_eq_append_getElem hk, List.getD_eq_getElem?_getD, List.getElem?_eq_getElem hk]; rfl
theorem flatN_next {N : List Nd} {U : Us} {S : List Nat} {k : Nat} (hk : k < S.length) : flatN N U (S.take (k + 1)) = flatN N U (S.take k) ++ ndc N U (S.getD k 0) := by
  rw [take_snoc hk, flatN_app]; simp [flatN]

/-- Where the first loop is: A are found, Q are members, B are among the ids. -/
structure G1 (N : List Nd) (U : Us) (fb gb : Nat) (v0 sv gv : Value) (m : Nat) (met : Nat → Nat) (fo : Nat → Option Nat) (w wr : World) (A : List Nat) (mv0 mv : Value) (Q : List Nat) (f : Nat → Nat) (B : List Nat) : Prop where
  fi : Fi wr fb v0 sv gv m met (fun i => if i ∈ A then some gb else fo i)
  grp : Gb wr gb mv0 f (fun _ => 0) true
  bits : Bits f (SI N B)
  row : wr.ownsRow (gb + 1) 33 4 mv Q.length (flatN N U Q)
  exc : Exc (fun b => b = fb) w wr
  lt : fb < gb
  sz : gb = w.heap.size
section
variable {N : List Nd} {U : Us} {fb gb : Nat} {v0 sv gv : Value} {m : Nat} {met : Nat → Nat} {fo : Nat → Option Nat} {w wr : World} {A : List Nat} {mv0 mv : Value} {Q : List Nat} {f : Nat → Nat} {B : List Nat}
theorem G1.own (h : G1 N U fb gb v0 sv gv m met fo w wr A mv0 mv Q f B) : ∀ k, mv.ownBlock = some k → gb < k := by
  intro k hk
  rcases h.row.2 with ⟨e, _⟩ | ⟨g, cap, cur, e, hb, _⟩
  · rw [e] at hk; simp [Value.ownBlock] at hk
  · rw [e] at hk; simp [Value.ownBlock] at hk; omega
theorem G1.bel {w0 : World} (h : G1 N U fb gb v0 sv gv m met fo w wr A mv0 mv Q f B) (hb : Below fb w0 w) : Below fb w0 wr :=
  hb.trans (h.exc.to (by have := h.lt; have := h.sz; omega) (fun b e => by omega))
theorem G1.found (h : G1 N U fb gb v0 sv gv m met fo w wr A mv0 mv Q f B) {p : Nat} (hp : p < 12) : G1 N U fb gb v0 sv gv m met fo w (wr.setCell ⟨fb, 15 + p, none⟩ (pv gb)) (A ++ [p]) mv0 mv Q f B := by
  have hl := h.lt
  have ho : ∀ k, k ≠ fb → (wr.setCell ⟨fb, 15 + p, none⟩ (pv gb)).heap[k]? = wr.heap[k]? := fun k hk => heap_setCell_other _ _ _ _ hk
  refine ⟨(h.fi.setFound hp gb).found_ext fun i _ => ?_, h.grp.same (ho gb (by omega)), h.bits, row_same h.row fun k hk => ho k (by have := h.own k hk; omega), h.exc.set (.inl rfl) _ _, hl, h.sz⟩
  by_cases e : i = p
  · rw [if_pos e, if_pos (by rw [e]; simp)]
  · rw [if_neg e]
    by_cases hA : i ∈ A
    · rw [if_pos hA, if_pos (List.mem_append_left _ hA)]
    · rw [if_neg hA, if_neg (by simp only [List.mem_append, List.mem_singleton, not_or]; exact ⟨hA, e⟩)]
theorem G1.low (h : G1 N U fb gb v0 sv gv m met fo w wr A mv0 mv Q f B) {w' : World} (hb : Below wr.heap.size wr w') : G1 N U fb gb v0 sv gv m met fo w w' A mv0 mv Q f B := by
  refine ⟨h.fi.same (hb.block fb h.fi.lt), h.grp.same (hb.block gb h.grp.lt), h.bits, row_same h.row fun k hk => ?_, h.exc.below hb, h.lt, h.sz⟩
  obtain ⟨cur, hc⟩ := ownb_typ h.row hk
  exact hb.block k (lt_of_heap hc)
theorem G1.app (h : G1 N U fb gb v0 sv gv m met fo w wr A mv0 mv Q f B) {p : Nat} {w' : World} {v' : Value} (hown : w'.ownsRow (gb + 1) 33 4 v' (Q.length + 1) (flatN N U Q ++ ndc N U p)) (hg : wr.grownBy w' mv.ownBlock) :
    G1 N U fb gb v0 sv gv m met fo w w' A mv0 v' (Q ++ [p]) f B := by
  have hk : ∀ k, k ≤ gb → some k ≠ mv.ownBlock := fun k hk e => by have := h.own k e.symm; omega
  have hl := h.lt
  refine ⟨h.fi.same (hg.block fb h.fi.lt (hk fb (by omega))), h.grp.same (hg.block gb h.grp.lt (hk gb (Nat.le_refl _))), h.bits, ?_, ?_, hl, h.sz⟩
  · rw [flatN_app, List.length_append]; simpa [flatN] using hown
  · refine ⟨hg.os.trans h.exc.os, hg.tape.trans h.exc.tape, hg.output.trans h.exc.output, Nat.le_trans h.exc.size hg.size, fun b hb hn => ?_⟩
    exact (hg.block b (Nat.lt_of_lt_of_le hb h.exc.size) (hk b (by have := h.sz; omega))).trans (h.exc.block b hb hn)
theorem G1.store (h : G1 N U fb gb v0 sv gv m met fo w wr A mv0 mv Q f B) : G1 N U fb gb v0 sv gv m met fo w (wr.setCell ⟨gb, 0, none⟩ mv) A mv mv Q f B := by
  have hl := h.lt
  have ho : ∀ k, k ≠ gb → (wr.setCell ⟨gb, 0, none⟩ mv).heap[k]? = wr.heap[k]? := fun k hk => heap_setCell_other _ _ _ _ hk
  exact ⟨h.fi.same (ho fb (by omega)), h.grp.set0 mv, h.bits, row_same h.row fun k hk => ho k (by have := h.own k hk; omega), h.exc.set (.inr (by have := h.sz; omega)) _ _, hl, h.sz⟩
theorem G1.add (h : G1 N U fb gb v0 sv gv m met fo w wr A mv0 mv Q f B) {p pr n : Nat} (ha : (N.getD p nd0).id = ((pr : Int), (n : Int))) (hpr : pr < 5) (hok : okP (N.getD p nd0).id = true) : G1 N U fb gb v0 sv gv m met fo w (wr.setCell ⟨gb, 1 + pr, none⟩ (.int .u64 ((f pr ||| 2 ^ n : Nat) : Int))) A mv0 mv Q (addF f (N.getD p nd0).id) (B ++ [p]) := by
  have hl := h.lt
  have ho : ∀ k, k ≠ gb → (wr.setCell ⟨gb, 1 + pr, none⟩ (.int .u64 ((f pr ||| 2 ^ n : Nat) : Int))).heap[k]? = wr.heap[k]? := fun k hk => heap_setCell_other _ _ _ _ hk
  refine ⟨h.fi.same (ho fb (by omega)), by rw [ha]; exact h.grp.addf hpr, (h.bits.add hok).ext fun x => ?_, row_same h.row fun k hk => ho k (by have := h.own k hk; omega), h.exc.set (.inr (by have := h.sz; omega)) _ _, hl, h.sz⟩
  constructor
  · rintro (⟨i, hi, e⟩ | e)
    · exact ⟨i, List.mem_append_left _ hi, e⟩
    · exact ⟨p, List.mem_append_right _ (List.mem_singleton.2 rfl), e.symm⟩
  · rintro ⟨i, hi, e⟩
    rcases List.mem_append.1 hi with hi | hi
    · exact .inl ⟨i, hi, e⟩
    · rw [List.mem_singleton] at hi; subst hi; exact .inr e.symm
end

theorem four_src (w : World) (t : TypeId) (x y z u : Value) (n : Nat) (hn : n = w.heap.size) : ∀ j v, [x, y, z, u][j]? = some v → (w.alloc (.cells #[x, y, z, u] t)).cell? ((⟨n, 0, none⟩ : Addr).add j) = some v := by
  subst hn
  intro j v hj
  match j, hj with
  | 0, hj => simp at hj; subst hj; simp [Addr.add]
  | 1, hj => simp at hj; subst hj; simp [Addr.add]
  | 2, hj => simp at hj; subst hj; simp [Addr.add]
  | 3, hj => simp at hj; subst hj; simp [Addr.add]
  | j + 4, hj => simp at hj
theorem four_one (x y z : Int) (a : Option Addr) (n c : Nat) : ∀ u ∈ [Value.int .i64 x, .int .i64 y, .int .i64 z, .slice a n c], u.oneCell' = true := by
  intro u hu
  simp only [List.mem_cons, List.not_mem_nil, or_false] at hu
  rcases hu with rfl | rfl | rfl | rfl <;> rfl

theorem own_some {w : World} {B : Nat} {e : TypeId} {size : Nat} {v : Value} {n : Nat} {xs : List Value} (h : w.ownsRow B e size v n xs) (hn : 0 < n) : ∃ g c, v = .slice (some ⟨g, 0, none⟩) n c := by
  rcases h.2 with ⟨_, h0⟩ | ⟨g, cap, cur, e, _⟩
  · omega
  · exact ⟨g, cap, e⟩

/-- Ids in range are numbers. -/
theorem ok_nat {a : Pid} (h : okP a = true) : ∃ pr n : Nat, a = ((pr : Int), (n : Int)) ∧ pr < 5 ∧ n ≤ 50 := by
  obtain ⟨r, n⟩ := a
  simp only [okP, idB, decide_eq_true_eq] at h
  exact ⟨r.toNat, n.toNat, by rw [Int.toNat_of_nonneg (by omega), Int.toNat_of_nonneg (by omega)], by omega, by omega⟩
end Go.Proofs.Ytbklkhndjckckaa

/- The program's gather: facts of its second loop. -/
namespace Go.Proofs.Ytbklkhndjckckaa
open Go.RowKit
set_option linter.unusedVariables false

theorem Exc.mono {P Q : Nat → Prop} {w w' : World} (h : Exc P w w') (hs : ∀ b, P b → Q b) : Exc Q w w' :=
  ⟨h.os, h.tape, h.output, h.size, fun b hb hn => h.block b hb fun x => hn (hs b x)⟩

/-- A set's words, five of them. -/
def nrm (r : Nat → Nat) : Nat → Nat := fun k => if k < 5 then r k else 0
theorem nrm_at {r : Nat → Nat} {k : Nat} (hk : k < 5) : nrm r k = r k := if_pos hk
theorem Bits.nrm_lt {r : Nat → Nat} {P : Pid → Prop} (h : Bits r P) : ∀ k, nrm r k < 2251799813685248 := by
  intro k
  unfold nrm
  split
  · exact h.lt (by assumption)
  · omega
theorem Bits.nrm {r : Nat → Nat} {P : Pid → Prop} (h : Bits r P) : Bits (nrm r) P := ⟨fun k n hk => by rw [nrm_at hk]; exact h.bit k n hk, h.ok⟩
theorem nrm_set (r : Nat → Nat) : setV (nrm r) = setV r := rfl

/-- Where the second loop is, in memory. -/
structure M2 (N : List Nd) (U : Us) (S Q : List Nat) (fb gb mb mc : Nat) (v0 sv gv : Value) (m : Nat) (met : Nat → Nat) (fo : Nat → Option Nat) (w wr : World) (f r : Nat → Nat) (rd : Bool) : Prop where
  fi : Fi wr fb v0 sv gv m met (fun i => if i ∈ S then some gb else fo i)
  grp : Gb wr gb (.slice (some ⟨mb, 0, none⟩) Q.length mc) f r rd
  row : RowN wr mb N U Q
  typ : Typ wr mb 33
  exc : Exc (fun b => b = fb) w wr
  fty : Typ w fb 88
  lt : fb < gb
  sz : gb = w.heap.size
  mlt : gb < mb
section
variable {N : List Nd} {U : Us} {S Q : List Nat} {fb gb mb mc : Nat} {v0 sv gv : Value} {m : Nat} {met : Nat → Nat} {fo : Nat → Option Nat} {w wr : World} {f r : Nat → Nat} {rd : Bool}
theorem M2.bel {w0 : World} (h : M2 N U S Q fb gb mb mc v0 sv gv m met fo w wr f r rd) (hb : Below fb w0 w) : Below fb w0 wr :=
  hb.trans (h.exc.to (by have := h.lt; have := h.sz; omega) (fun b e => by omega))
theorem M2.low (h : M2 N U S Q fb gb mb mc v0 sv gv m met fo w wr f r rd) {w' : World} (hb : Below wr.heap.size wr w') : M2 N U S Q fb gb mb mc v0 sv gv m met fo w w' f r rd :=
  ⟨h.fi.same (hb.block fb h.fi.lt), h.grp.same (hb.block gb h.grp.lt), h.row.same (hb.block mb h.row.lt), h.typ.same (hb.block mb h.row.lt), h.exc.below hb, h.fty, h.lt, h.sz, h.mlt⟩
theorem M2.exv (h : M2 N U S Q fb gb mb mc v0 sv gv m met fo w wr f r rd) : Exv w wr := h.exc.mono fun b e => .inl (by rw [e]; exact h.fty)
theorem M2.stor (h : M2 N U S Q fb gb mb mc v0 sv gv m met fo w wr f r rd) {o : Nat} {v : Value} {r' : Nat → Nat} {rd' : Bool} (hg : Gb (wr.setCell ⟨gb, o, none⟩ v) gb (.slice (some ⟨mb, 0, none⟩) Q.length mc) f r' rd') :
    M2 N U S Q fb gb mb mc v0 sv gv m met fo w (wr.setCell ⟨gb, o, none⟩ v) f r' rd' := by
  have hl := h.lt
  have hm := h.mlt
  have ho : ∀ k, k ≠ gb → (wr.setCell ⟨gb, o, none⟩ v).heap[k]? = wr.heap[k]? := fun k hk => heap_setCell_other _ _ _ _ hk
  exact ⟨h.fi.same (ho fb (by omega)), hg, h.row.same (ho mb (by omega)), h.typ.same (ho mb (by omega)), h.exc.set (.inr (by have := h.sz; omega)) _ _, h.fty, hl, h.sz, hm⟩
theorem M2.miss (h : M2 N U S Q fb gb mb mc v0 sv gv m met fo w wr f r rd) : M2 N U S Q fb gb mb mc v0 sv gv m met fo w (wr.setCell ⟨gb, 11, none⟩ (.bool false)) f r false := h.stor (h.grp.set11 false)
theorem M2.rdy (h : M2 N U S Q fb gb mb mc v0 sv gv m met fo w wr f r rd) (b : Bool) : M2 N U S Q fb gb mb mc v0 sv gv m met fo w (wr.setCell ⟨gb, 11, none⟩ (.bool b)) f r b := h.stor (h.grp.set11 b)
theorem M2.add (h : M2 N U S Q fb gb mb mc v0 sv gv m met fo w wr f r rd) {p n : Nat} (hp : p < 5) : M2 N U S Q fb gb mb mc v0 sv gv m met fo w (wr.setCell ⟨gb, 6 + p, none⟩ (.int .u64 ((r p ||| 2 ^ n : Nat) : Int))) f (addF r ((p : Int), (n : Int))) rd := h.stor (h.grp.addr hp)
theorem M2.put (h : M2 N U S Q fb gb mb mc v0 sv gv m met fo w wr f r rd) (q : Nat → Nat) : M2 N U S Q fb gb mb mc v0 sv gv m met fo w (((((wr.setCell ⟨gb, 6, none⟩ (.int .u64 (q 0))).setCell ⟨gb, 7, none⟩ (.int .u64 (q 1))).setCell ⟨gb, 8, none⟩ (.int .u64 (q 2))).setCell ⟨gb, 9, none⟩ (.int .u64 (q 3))).setCell ⟨gb, 10, none⟩ (.int .u64 (q 4))) f q rd := by
  have hl := h.lt
  have hm := h.mlt
  have ho : ∀ k, k ≠ gb → (((((wr.setCell ⟨gb, 6, none⟩ (.int .u64 (q 0))).setCell ⟨gb, 7, none⟩ (.int .u64 (q 1))).setCell ⟨gb, 8, none⟩ (.int .u64 (q 2))).setCell ⟨gb, 9, none⟩ (.int .u64 (q 3))).setCell ⟨gb, 10, none⟩ (.int .u64 (q 4))).heap[k]? = wr.heap[k]? := fun k hk => by
    rw [heap_setCell_other _ _ _ _ hk, heap_setCell_other _ _ _ _ hk, heap_setCell_other _ _ _ _ hk, heap_setCell_other _ _ _ _ hk, heap_setCell_other _ _ _ _ hk]
  have hs : gb = w.heap.size ∨ w.heap.size ≤ gb := .inr (by have := h.sz; omega)
  exact ⟨h.fi.same (ho fb (by omega)), h.grp.putr q, h.row.same (ho mb (by omega)), h.typ.same (ho mb (by omega)), ((((h.exc.set (.inr (by have := h.sz; omega)) _ _).set (.inr (by have := h.sz; omega)) _ _).set (.inr (by have := h.sz; omega)) _ _).set (.inr (by have := h.sz; omega)) _ _).set (.inr (by have := h.sz; omega)) _ _, h.fty, hl, h.sz, hm⟩
end

/-- What the group of a node that is come upon is: the one being gathered, or one that is known. -/
def Oth (wr : World) (gb gb2 : Nat) (r r2 : Nat → Nat) (rd rd2 : Bool) : Prop := (gb2 = gb ∧ r2 = r ∧ rd2 = rd) ∨ (gb2 ≠ gb ∧ ∃ mv f2, Gb wr gb2 mv f2 r2 rd2)
theorem Oth.cells {N : List Nd} {U : Us} {S Q : List Nat} {fb gb mb mc : Nat} {v0 sv gv : Value} {m : Nat} {met : Nat → Nat} {fo : Nat → Option Nat} {w wr : World} {f r : Nat → Nat} {rd : Bool} {gb2 : Nat} {r2 : Nat → Nat} {rd2 : Bool} (h : Oth wr gb gb2 r r2 rd rd2) (hM : M2 N U S Q fb gb mb mc v0 sv gv m met fo w wr f r rd) :
    (wr.cell? ⟨gb2, 6, none⟩ = some (.int .u64 (r2 0)) ∧ wr.cell? ⟨gb2, 7, none⟩ = some (.int .u64 (r2 1)) ∧ wr.cell? ⟨gb2, 8, none⟩ = some (.int .u64 (r2 2)) ∧ wr.cell? ⟨gb2, 9, none⟩ = some (.int .u64 (r2 3)) ∧ wr.cell? ⟨gb2, 10, none⟩ = some (.int .u64 (r2 4))) ∧ wr.cell? ⟨gb2, 11, none⟩ = some (.bool rd2) := by
  rcases h with ⟨rfl, rfl, rfl⟩ | ⟨_, mv, f2, hg⟩
  · exact ⟨hM.grp.rs, hM.grp.c11⟩
  · exact ⟨hg.rs, hg.c11⟩
theorem Oth.low {wr w' : World} {gb gb2 : Nat} {r r2 : Nat → Nat} {rd rd2 : Bool} (h : Oth wr gb gb2 r r2 rd rd2) (hb : Below wr.heap.size wr w') : Oth w' gb gb2 r r2 rd rd2 := by
  rcases h with h | ⟨h1, mv, f2, hg⟩
  · exact .inl h
  · exact .inr ⟨h1, mv, f2, hg.same (hb.block gb2 hg.lt)⟩
theorem Oth.put {N : List Nd} {U : Us} {S Q : List Nat} {fb gb mb mc : Nat} {v0 sv gv : Value} {m : Nat} {met : Nat → Nat} {fo : Nat → Option Nat} {w wr : World} {f r : Nat → Nat} {rd : Bool} {gb2 : Nat} {r2 : Nat → Nat} {rd2 : Bool} (h : Oth wr gb gb2 r r2 rd rd2) (hM : M2 N U S Q fb gb mb mc v0 sv gv m met fo w wr f r rd) (q : Nat → Nat) :
    (((((wr.setCell ⟨gb, 6, none⟩ (.int .u64 (q 0))).setCell ⟨gb, 7, none⟩ (.int .u64 (q 1))).setCell ⟨gb, 8, none⟩ (.int .u64 (q 2))).setCell ⟨gb, 9, none⟩ (.int .u64 (q 3))).setCell ⟨gb, 10, none⟩ (.int .u64 (q 4))).cell? ⟨gb2, 11, none⟩ = some (.bool rd2) := by
  rcases h with ⟨rfl, rfl, rfl⟩ | ⟨hn, mv, f2, hg⟩
  · exact (hM.put q).grp.c11
  · refine (World.cell?_of_block (a := ⟨gb2, 11, none⟩) ?_).trans hg.c11
    dsimp only
    rw [heap_setCell_other _ _ _ _ hn, heap_setCell_other _ _ _ _ hn, heap_setCell_other _ _ _ _ hn, heap_setCell_other _ _ _ _ hn, heap_setCell_other _ _ _ _ hn]

/-- A step to a node. -/
theorem come_any {N : List Nd} {U : Us} {S Q : List Nat} {fb gb mb mc : Nat} {v0 sv gv : Value} {m : Nat} {met : Nat → Nat} {fo : Nat → Option Nat} {w wr : World} {f r : Nat → Nat} {rd : Bool} {P : Pid → Prop} {D : List Pid}
    (hM : M2 N U S Q fb gb mb mc v0 sv gv m met fo w wr f r rd) (hb : Bits r P) (hGL : GL N S D P rd) (hv : nodB N = true) (hS : GS N S) (hO : ∀ i ∈ S, ∀ j, EN N i j → ¬ j ∈ S → ∃ b, fo j = some b ∧ Grp w b N U j)
    {q p : Nat} {d : Pid} (hq : q ∈ S) (hE : EN N q p) (hd : (N.getD p nd0).id = d) :
    ∃ gb2, (if p ∈ S then some gb else fo p) = some gb2 ∧ ∀ (w7 : World) (o : Nat) (v : Value), Below wr.heap.size wr w7 → ∃ r2 rd2 P2, Oth (w7.setCell ⟨gb, o, none⟩ v) gb gb2 (addF r d) r2 rd rd2 ∧ Bits r2 P2 ∧ GL N S (D ++ [d]) (fun x => (P x ∨ x = d) ∨ P2 x) (rd && rd2) := by
  have hok : okP d = true := by rw [← hd]; exact nod_okI hv (List.mem_map_of_mem (getD_mem hE.2.1))
  have ha : SI N S (N.getD q nd0).id := ⟨q, hq, rfl⟩
  have hEI : EI N (N.getD q nd0).id d := by rw [← hd]; exact (en_ei hv hE.1 hE.2.1).1 hE
  by_cases hp : p ∈ S
  · refine ⟨gb, if_pos hp, fun w7 o v hbl => ⟨addF r d, rd, _, .inl ⟨rfl, rfl, rfl⟩, hb.add hok, ?_⟩⟩
    exact hGL.own ha hEI (by rw [← hd]; exact ⟨p, hp, rfl⟩)
  · obtain ⟨b, hb1, hb2⟩ := hO q hq p hE hp
    obtain ⟨mb', cap', Q', f2, r2, rd2, hgr⟩ := hb2
    have hne : b ≠ gb := by have := hgr.gb.lt; have := hM.sz; omega
    have hk := hgr.keep hM.exv
    have hgb : ∀ (w7 : World) (o : Nat) (v : Value), Below wr.heap.size wr w7 → Gb (w7.setCell ⟨gb, o, none⟩ v) b (.slice (some ⟨mb', 0, none⟩) Q'.length cap') f2 r2 rd2 := fun w7 o v hbl => (hk.gb.same (hbl.block b hk.gb.lt)).same (heap_setCell_other _ _ _ _ hne)
    refine ⟨b, by rw [if_neg hp]; exact hb1, fun w7 o v hbl => ⟨r2, rd2, _, .inr ⟨hne, _, f2, hgb w7 o v hbl⟩, hgr.gm.rch, ?_⟩⟩
    · rw [hd]
      refine hGL.oth ha hEI (fun hh => hp ?_) (by rw [← hd]; exact hgr.gm.rdy)
      rw [← hd] at hh
      exact (hS.place hv hE.2.1).1 hh
theorem getD_memP {L : List Pid} {k : Nat} (h : k < L.length) : L.getD k nop ∈ L := by
  rw [List.getD_eq_getElem?_getD, List.getElem?_eq_getElem h]; exact List.getElem_mem h
theorem getD_memN {L : List Nat} {k : Nat} (h : k < L.length) : L.getD k 0 ∈ L := by
  rw [List.getD_eq_getElem?_getD, List.getElem?_eq_getElem h]; exact List.getElem_mem h
theorem pos_node {N : List Nd} (hv : nodB N = true) {d : Pid} (h : d ∈ idsN N) : posP (idsN N) d < N.length ∧ (N.getD (posP (idsN N) d) nd0).id = d := by
  obtain ⟨h1, h2⟩ := (posP_mem (nod_of hv).2.2).1 h
  rw [idsN_len] at h1
  exact ⟨h1, by rw [← idsN_get h1]; exact h2⟩
theorem own_ge {w : World} {B : Nat} {e : TypeId} {size : Nat} {v : Value} {n : Nat} {xs : List Value} (h : w.ownsRow B e size v n xs) {k : Nat} (hk : v.ownBlock = some k) : B ≤ k := by
  rcases h.2 with ⟨rfl, _⟩ | ⟨g, cap, cur, rfl, hb, _⟩
  · simp [Value.ownBlock] at hk
  · simp [Value.ownBlock] at hk; omega
/-- The group is put behind the others. -/
theorem gat_end {N : List Nd} {U : Us} {S Q : List Nat} {fb gb mb mc : Nat} {v0 sv gv : Value} {m : Nat} {met : Nat → Nat} {fo : Nat → Option Nat} {w wr : World} {f r : Nat → Nat} {rd : Bool} {gs : List Nat}
    (hM : M2 N U S Q fb gb mb mc v0 sv gv m met fo w wr f r rd) (hG : w.ownsRow (fb + 1) 57 1 gv gs.length (gs.map pv)) {o : Obj} {w' : World} {v' : Value}
    (hown : w'.ownsRow (fb + 1) 57 1 v' (gs.length + 1) (gs.map pv ++ [pv gb])) (hg : (wr.alloc o).grownBy w' gv.ownBlock) :
    Fi w' fb v0 sv gv m met (fun i => if i ∈ S then some gb else fo i) ∧ Fi (w'.setCell ⟨fb, 27, none⟩ v') fb v0 sv v' m met (fun i => if i ∈ S then some gb else fo i) ∧ (w'.setCell ⟨fb, 27, none⟩ v').ownsRow (fb + 1) 57 1 v' (gs ++ [gb]).length ((gs ++ [gb]).map pv) ∧
    (∀ i, Grp wr gb N U i → Grp (w'.setCell ⟨fb, 27, none⟩ v') gb N U i) ∧ Exc (fun b => b = fb ∨ fb < b ∧ Typ w b 57) w (w'.setCell ⟨fb, 27, none⟩ v') := by
  have hl := hM.lt
  have hne : ∀ k, gv.ownBlock = some k → k ≠ fb := fun k hk => by have := own_ge hG hk; omega
  have hfi : Fi (wr.alloc o) fb v0 sv gv m met (fun i => if i ∈ S then some gb else fo i) := hM.fi.same (heap_alloc_old _ _ hM.fi.lt)
  have hfi' : Fi w' fb v0 sv gv m met (fun i => if i ∈ S then some gb else fo i) := hfi.same (hg.block fb hfi.lt (fun e => hne fb e.symm rfl))
  have hG2 : (wr.alloc o).ownsRow (fb + 1) 57 1 gv gs.length (gs.map pv) := (row_same hG fun k hk => hM.exc.block k (ownb_typ hG hk).lt (hne k hk)).alloc o
  have e1 : Exv wr w' := (Exv.of ((Below.refl _ _).alloc (Nat.le_refl _) o)).trans (Exv.grown hG2 hg (.inr rfl))
  have e2 : Exv wr (w'.setCell ⟨fb, 27, none⟩ v') := e1.set (.inl hfi'.typ) _ _
  have x1 : Exc (fun b => b = fb ∨ fb < b ∧ Typ w b 57) w (wr.alloc o) := (hM.exc.mono fun b e => .inl e).alloc o
  have x2 : Exc (fun b => b = fb ∨ fb < b ∧ Typ w b 57) w w' := by
    refine ⟨hg.os.trans x1.os, hg.tape.trans x1.tape, hg.output.trans x1.output, Nat.le_trans x1.size hg.size, fun b hb hn => ?_⟩
    exact (hg.block b (Nat.lt_of_lt_of_le hb x1.size) (fun e => hn (.inr ⟨own_ge hG e.symm, ownb_typ hG e.symm⟩))).trans (x1.block b hb hn)
  refine ⟨hfi', hfi'.setGroups v', row_same (by rw [List.map_append, List.length_append]; exact hown) (fun k hk => heap_setCell_other _ _ _ _ (by have := own_ge hown hk; show k ≠ fb; omega)), fun i h => h.keep e2, x2.set (.inl (.inl rfl)) _ _⟩
end Go.Proofs.Ytbklkhndjckckaa

/- The program's gather. -/
namespace Go.Proofs.Ytbklkhndjckckaa
open Go.RowKit
set_option linter.unusedVariables false

/-- What gathering leaves. -/
def GatP (N : List Nd) (U : Us) (S : List Nat) (gs : List Nat) (fb : Nat) (v0 sv : Value) (m : Nat) (met : Nat → Nat) (fo : Nat → Option Nat) (w : World) (e : Ending) (w' : World) : Prop :=
  e = .returned (.tuple #[]) ∧ ∃ gb gv', w.heap.size ≤ gb ∧ Fi w' fb v0 sv gv' m met (fun i => if i ∈ S then some gb else fo i) ∧ w'.ownsRow (fb + 1) 57 1 gv' (gs ++ [gb]).length ((gs ++ [gb]).map pv) ∧ (∀ i ∈ S, Grp w' gb N U i) ∧ Exc (fun b => b = fb ∨ fb < b ∧ Typ w b 57) w w'

set_option maxRecDepth 100000 in
set_option maxHeartbeats 4000000 in
theorem gather_any (fb g off cp sb so sc : Nat) (gv sv : Value) (N : List Nd) (U : Us) (S gs : List Nat) (m : Nat) (met : Nat → Nat) (fo : Nat → Option Nat) (w0 w : World)
    (hv : nodB N = true) (hA : NdAt w0 g off N U) (h0 : w0.heap.size ≤ fb) (hbel : Below fb w0 w)
    (hF : Fi w fb (.slice (some ⟨g, off, none⟩) N.length cp) sv gv m met fo) (hS : GS N S) (hS0 : 0 < S.length)
    (hsb : Typ w sb 3) (hP : ∀ i, i < S.length → w.cell? ⟨sb, so + i, none⟩ = some (nv (S.getD i 0)))
    (hG : w.ownsRow (fb + 1) 57 1 gv gs.length (gs.map pv)) (hgl : gs.length ≤ 12)
    (hO : ∀ i ∈ S, ∀ j, EN N i j → ¬ j ∈ S → ∃ b, fo j = some b ∧ Grp w b N U j) :
    Calls Try.prog 70 #[.pointer (some ⟨fb, 0, none⟩), .slice (some ⟨sb, so, none⟩) S.length sc] w (GatP N U S gs fb (.slice (some ⟨g, off, none⟩) N.length cp) sv m met fo w) := by
  obtain ⟨i0, hi, hz0, hz1, hz2⟩ := info_parts infoN
  have hSl := hS.len hv
  have hNl := (nod_of hv).1
  have hv := Lib.hid hv
  have hA := Lib.hid hA
  have hS := Lib.hid hS
  have hF := Lib.hid hF
  have hP := Lib.hid hP
  have hG := Lib.hid hG
  have hO := Lib.hid hO
  have hbel := Lib.hid hbel
  have hflt := hF.out.lt
  have hsne : Hid (sb ≠ fb) := Lib.hid (hsb.ne hF.out.typ (by decide))
  obtain ⟨n, hn⟩ : ∃ n, Hid (S.length = n) := ⟨_, Lib.hid rfl⟩
  obtain ⟨nn, hnn⟩ : ∃ n, Hid (N.length = n) := ⟨_, Lib.hid rfl⟩
  rw [hn.out] at hSl hS0 ⊢
  rw [hnn.out] at hNl hF ⊢
  go_enter Try.func70, Try.ntmps70
  go_wp2_with fail
  go_loopw [17] (fun i wr => ∃ (k : Nat) (mv : Value) (f : Nat → Nat), k ≤ n ∧ i = .int .i64 k ∧ Hid (G1 N U fb w.heap.size (.slice (some ⟨g, off, none⟩) nn cp) sv gv m met fo w wr (S.take k) mv mv (S.take k) f (S.take k))) (fun i _ => n - (intOf i).toNat)
  case atStart =>
    refine ⟨0, .slice none 0 0, fun _ => 0, Nat.zero_le _, rfl, Lib.hid ⟨(hF.out.same ?_).found_ext fun i _ => ?_, ?_, Bits.zero.ext fun x => ?_, World.ownsRow_nil _ _ _ _, ?_, hflt, rfl⟩⟩
    · exact heap_alloc_old _ _ hflt
    · simp
    · exact ⟨_, heap_alloc_new w _, rfl, rfl, fun k hk => by rcases (show k = 0 ∨ k = 1 ∨ k = 2 ∨ k = 3 ∨ k = 4 by omega) with rfl | rfl | rfl | rfl | rfl <;> rfl, fun k hk => by rcases (show k = 0 ∨ k = 1 ∨ k = 2 ∨ k = 3 ∨ k = 4 by omega) with rfl | rfl | rfl | rfl | rfl <;> rfl, rfl⟩
    · simp [SI]
    · exact (Exc.refl _ _).alloc _
  case round =>
    obtain ⟨k, mv, f, hk, rfl, h1⟩ := hrel
    by_cases hlt : k < n
    · have hkS : k < S.length := by rw [hn.out]; exact hlt
      have c0 : wr.cell? ⟨sb, so + k, none⟩ = some (nv (S.getD k 0)) := by
        rw [← hP.out k hkS]
        have := h1.out.exc.block sb hsb.lt hsne.out
        simp [World.cell?, this]
      have hpS : S.getD k 0 ∈ S := by rw [List.getD_eq_getElem?_getD, List.getElem?_eq_getElem hkS]; exact List.getElem_mem hkS
      have hpn := hS.out.lt _ hpS
      have hA1 := Lib.hid (hA.out.up (h1.out.bel hbel.out) h0)
      have hok := Lib.hid (nod_okI hv.out (List.mem_map_of_mem (f := Nd.id) (getD_mem hpn)))
      have tk := Lib.hid (take_snoc hkS)
      obtain ⟨p, hp⟩ : ∃ p, Hid (S.getD k 0 = p) := ⟨_, Lib.hid rfl⟩
      rw [hp.out] at c0 hpn
      have tk := Lib.hid (tk.out.trans (by rw [hp.out]))
      have hok := hok.out
      rw [hp.out] at hok
      have hok := Lib.hid hok
      rw [hnn.out] at hpn
      unfold nv at c0
      have p12 : p < 12 := by omega
      have pi : (p : Int) < 12 := by omega
      have d0 := h1.out.fi.foc p12
      have e0 := h1.out.fi.free (15 + p)
      have hfl := h1.out.fi.lt
      have h2 := Lib.hid (h1.out.found p12)
      clear hpS h1
      go_upto_region 5 with fail
      obtain ⟨W1, hW1⟩ : ∃ W, wr.setCell ⟨fb, 15 + p, none⟩ (.pointer (some ⟨w.heap.size, 0, none⟩)) = W := ⟨_, rfl⟩
      rw [hW1]
      have h2 : Hid (G1 N U fb w.heap.size (.slice (some ⟨g, off, none⟩) nn cp) sv gv m met fo w W1 (S.take k ++ [p]) mv mv (S.take k) f (S.take k)) := Lib.hid (by rw [← hW1]; exact h2.out)
      have hA1 : Hid (NdAt W1 g off N U) := Lib.hid (hA.out.up (h2.out.bel hbel.out) h0)
      clear hW1 d0 e0 hfl c0
      have m0 := h2.out.grp.c0
      have m1 := h2.out.grp.free 0
      have ml := h2.out.grp.lt
      obtain ⟨v0, _, _, _⟩ := h2.out.fi.cells
      have hfl := h2.out.fi.lt
      obtain ⟨x0, x1, x2, x3⟩ := hA1.out.cell p (by rw [hnn.out]; exact hpn)
      have hgl := hA1.out.lt
      have rw5 := Lib.hid (h2.out.low (Below.drew (Below.refl _ _)))
      have ndd := Lib.hid (ndc_def N U p)
      have hap := Lib.hid (fun (o : Obj) (w' : World) (v' : Value) => G1.app (p := p) (w' := w') (v' := v') (rw5.out.low ((Below.refl _ _).alloc (Nat.le_refl _) o)))
      generalize (N.getD p nd0).id.1 = a0 at x0 ndd
      generalize (N.getD p nd0).id.2 = a1 at x1 ndd
      generalize (N.getD p nd0).seq = a2 at x2 ndd
      generalize (U p).1 = ua at x3 ndd
      generalize (U p).2.1 = un at x3 ndd
      generalize (U p).2.2 = uc at x3 ndd
      rw [ndd.out] at hap
      have tkl : (S.take k).length = k := by rw [List.length_take]; omega
      rw [tkl] at hap
      have rr := rw5.out.row
      rw [tkl] at rr
      have rr := Lib.hid rr
      clear h2 rw5
      go_region_law (first | (rw [if_pos (by rfl)]; refine wp_append_own _ _ _ 23 rfl (w.heap.size + 1) 33 i0 (.agg #[.int .i64 0, .int .i64 0, .int .i64 0, .slice none 0 0]) 4 48 Try.underlying23 hi hz0 hz1 hz2 rfl (by decide) mv k (flatN N U (S.take k)) rfl (rr.out.alloc (.cells #[.int .i64 a0, .int .i64 a1, .int .i64 a2, .slice ua un uc] 33)) ⟨W1.heap.size, 0, none⟩ 1 1 [.int .i64 a0, .int .i64 a1, .int .i64 a2, .slice ua un uc] rfl rfl (four_src _ _ _ _ _ _ _ (by simp)) (four_one _ _ _ _ _ _) (by unfold maxLen; omega) (by omega) (by simp; omega) ?_; intro v4 w4 hown4 hgrow4 hnil4; obtain ⟨g4, c4, rfl⟩ := own_some hown4 (by omega); have X4 := Lib.hid (hap.out _ w4 _ hown4 hgrow4); have m4 := X4.out.grp.c0; have f4 := X4.out.grp.free 0; have X5 := Lib.hid X4.out.store; clear hown4 hgrow4 hnil4 hap rr X4 m0 m1 x0 x1 x2 x3 v0))
      clear hA1 ndd
      all_goals
        obtain ⟨W5, hW5⟩ : ∃ W, w4.setCell ⟨w.heap.size, 0, none⟩ (.slice (some ⟨g4, 0, none⟩) (k + 1) c4) = W := ⟨_, rfl⟩
        rw [hW5] at X5 ⊢
        clear hW5 m4 f4 tkl
        have X6 := Lib.hid (X5.out.low (Below.drew (Below.refl _ _)))
        have hA1 : Hid (NdAt W5 g off N U) := Lib.hid (hA.out.up (X5.out.bel hbel.out) h0)
        obtain ⟨v0, _, _, _⟩ := X5.out.fi.cells
        have hfl := X5.out.fi.lt
        have hgl := X5.out.grp.lt
        obtain ⟨x0, x1, _, _⟩ := hA1.out.cell p (by rw [hnn.out]; exact hpn)
        have hgg := hA1.out.lt
        obtain ⟨pr, nr, he, hpr, hnr⟩ := ok_nat hok.out
        rw [he] at x0 x1
        dsimp only at x0 x1
        have sc := add_at w.heap.size 1 pr nr (f pr) W5.drew hpr hnr X6.out.grp.lt (X6.out.grp.cf hpr) (X6.out.grp.free _) (X6.out.bits.lt hpr)
        have put := Lib.hid (fun (W : World) (hb : Below W5.drew.heap.size W5.drew W) => (X6.out.low hb).add he hpr hok.out)
        clear X5 X6 hA1 he
        go_wp2_with fail
        go_region_with (go_at_call 77; (with_reducible refine sc.mono ?_); rintro e w6 ⟨rfl, w7, hb, rfl⟩; have R := Lib.hid (put.out w7 hb); clear hb put)
        all_goals
          go_wp2_with fail
          go_roundw
          case rel => exact ⟨k + 1, _, _, by omega, by go_num, Lib.hid (by rw [tk.out]; exact R.out)⟩
          case measure => simp [intOf]; omega
    · obtain rfl : k = n := by omega
      have tS : S.take k = S := List.take_of_length_le (by rw [hn.out]; exact Nat.le_refl _)
      rw [tS] at h1
      obtain ⟨mb, mc, rfl, hmb, hR, hTy, hmc⟩ := rowN_of h1.out.row (by rw [hn.out]; exact hS0)
      have hpl : Hid (∀ q ∈ S, q < N.length) := Lib.hid hS.out.lt
      have srt := nsort_at mb mc N U S wr hv.out hpl.out hS.out.nd (by rw [hn.out]; omega) (by rw [hn.out]; exact hSl) hR
      rw [hn.out] at srt
      have m0 := h1.out.grp.c0
      rw [hn.out] at m0
      have hgl1 := h1.out.grp.lt
      clear hR
      go_wp2_with fail
      refine srt.mono ?_
      rintro e w1 ⟨rfl, Q, hQ, hRN, hE⟩
      have hql := hQ.perm.length_eq
      have hM : Hid (M2 N U S Q fb w.heap.size mb mc (.slice (some ⟨g, off, none⟩) nn cp) sv gv m met fo w w1 f (fun _ => 0) true) := by
        have hl := h1.out.lt
        refine Lib.hid ⟨h1.out.fi.same (hE.block fb h1.out.fi.lt (by omega)), ?_, hRN, ?_, ?_, hF.out.typ, hl, rfl, by omega⟩
        · rw [hql]; exact h1.out.grp.same (hE.block _ h1.out.grp.lt (by omega))
        · exact hRN.typ
        · exact h1.out.exc.trans hE (fun b hb e => by omega)
      have hfb := Lib.hid h1.out.bits
      have hQ := Lib.hid hQ
      rw [hn.out] at hql
      clear h1 hRN hE srt tS hTy m0 hgl1
      have m0 := hM.out.grp.c0
      rw [hql] at m0
      have hgl1 := hM.out.grp.lt
      go_wp2_with fail
      go_loopw [66] (fun i wr => ∃ (j : Nat) (r : Nat → Nat) (rd : Bool) (P : Pid → Prop), j ≤ k ∧ i = .int .i64 j ∧ Hid (M2 N U S Q fb w.heap.size mb mc (.slice (some ⟨g, off, none⟩) nn cp) sv gv m met fo w wr f r rd ∧ Bits r P ∧ GL N S (depsL N Q j 0) P rd)) (fun i _ => k - (intOf i).toNat)
      case atStart => exact ⟨0, _, _, _, Nat.zero_le _, rfl, Lib.hid ⟨hM.out, Bits.zero, by rw [depsL_start]; exact GL.start N S⟩⟩
      case round =>
        clear hM m0 hgl1
        obtain ⟨j, r, rd, P, hj, rfl, hS2⟩ := hrel
        by_cases hjl : j < k
        · obtain ⟨c0, c1, c2, c3⟩ := hS2.out.1.row.cell (i := j) (by rw [hql]; exact hjl)
          have hQm : Q.getD j 0 ∈ S := hQ.out.perm.mem_iff.1 (by rw [List.getD_eq_getElem?_getD, List.getElem?_eq_getElem (by omega)]; exact List.getElem_mem _)
          have drow := Lib.hid (depsL_row (N := N) (Q := Q) (j := j) (by omega))
          have dnx := Lib.hid (fun kk => depsL_next (N := N) (Q := Q) (j := j) (k := kk))
          obtain ⟨q, hq⟩ : ∃ q, Hid (Q.getD j 0 = q) := ⟨_, Lib.hid rfl⟩
          rw [hq.out] at c0 c1 c2 c3 hQm drow dnx
          have hQm := Lib.hid hQm
          have hml := hS2.out.1.row.lt
          obtain ⟨dl, hdl⟩ : ∃ n, Hid ((N.getD q nd0).deps.length = n) := ⟨_, Lib.hid rfl⟩
          have hids := hA.out.ids q (by have := hS.out.lt q hQm.out; omega)
          obtain ⟨ua, uc, hue, hds⟩ := hids
          injection hue with e1 e2 e3
          rw [e1, e2, e3, hdl.out] at c3
          rw [hdl.out] at hds drow dnx
          have hds := Lib.hid hds
          clear e1 e2 e3
          generalize (N.getD q nd0).id.1 = a0 at c0
          generalize (N.getD q nd0).id.2 = a1 at c1
          generalize (N.getD q nd0).seq = a2 at c2
          go_wp2_with fail
          go_loopw [73] (fun i wr2 => ∃ (kk : Nat) (r : Nat → Nat) (rd : Bool) (P : Pid → Prop), kk ≤ dl ∧ i = .int .i64 kk ∧ Hid (M2 N U S Q fb w.heap.size mb mc (.slice (some ⟨g, off, none⟩) nn cp) sv gv m met fo w wr2 f r rd ∧ Bits r P ∧ GL N S (depsL N Q j kk) P rd)) (fun i _ => dl - (intOf i).toNat)
          case atStart => exact ⟨0, r, rd, P, Nat.zero_le _, rfl, Lib.hid ⟨hS2.out.1.low ((Below.refl _ _).alloc (Nat.le_refl _) _), hS2.out.2.1, hS2.out.2.2⟩⟩
          case round =>
            clear hS2 c0 c1 c2 c3 hml
            obtain ⟨kk, r, rd, P, hkk, rfl, hT⟩ := hrel
            by_cases hkl : kk < dl
            · obtain ⟨db, dof, rfl, hdb, hdc⟩ := hds.out.2.2.resolve_left (by omega)
              obtain ⟨x0, x1⟩ := hdc kk hkl
              clear hdc
              have B2 := hT.out.1.bel hbel.out
              have x0 := (B2.cell (p := ⟨db, dof + kk * 2, none⟩) (Nat.lt_of_lt_of_le hdb h0)).trans x0
              have x1 := (B2.cell (p := ⟨db, dof + kk * 2 + 1, none⟩) (Nat.lt_of_lt_of_le hdb h0)).trans x1
              have hdb2 : db < wr.heap.size := Nat.lt_of_lt_of_le (Nat.lt_of_lt_of_le hdb h0) (by have := hT.out.1.lt; have := hT.out.1.grp.lt; omega)
              have hdm : (N.getD q nd0).deps.getD kk nop ∈ (N.getD q nd0).deps := getD_memP (by rw [hdl.out]; exact hkl)
              have dn1 := dnx.out kk hkl
              obtain ⟨d, hd⟩ : ∃ d, Hid ((N.getD q nd0).deps.getD kk nop = d) := ⟨_, Lib.hid rfl⟩
              rw [hd.out] at x0 x1 hdm dn1
              obtain ⟨dr, dn⟩ := d
              dsimp only at x0 x1
              have hdm := Lib.hid hdm
              have dn1 := Lib.hid dn1
              have hTa := Lib.hid (hT.out.1.low ((Below.refl _ _).alloc (Nat.le_refl _) (.cells #[.int .i64 dr, .int .i64 dn] 31)))
              have hAa := Lib.hid (hA.out.up (hTa.out.bel hbel.out) h0)
              have pl := place_any fb g off cp N dr dn _ hv.out hAa.out.lt hAa.out.ins (by rw [hnn.out]; exact hTa.out.fi.cells.1)
              have hbox := Lib.hid (heap_alloc_new wr (.cells #[.int .i64 dr, .int .i64 dn] 31))
              clear B2 hdb
              by_cases hid : (dr, dn) ∈ idsN N
              · rw [show hasP (idsN N) (dr, dn) = true from decide_eq_true hid] at pl
                obtain ⟨hp1, hp2⟩ := pos_node hv.out hid
                obtain ⟨pr, nr, he, hpr, hnr⟩ := ok_nat (nod_okI hv.out hid)
                obtain ⟨p, hp⟩ : ∃ p, Hid (posP (idsN N) (dr, dn) = p) := ⟨_, Lib.hid rfl⟩
                rw [hp.out] at pl hp1 hp2
                obtain ⟨rfl, rfl⟩ := Prod.mk.inj he
                have hE : EN N q p := ⟨hS.out.lt q hQm.out, hp1, by rw [hp2]; exact hdm.out⟩
                obtain ⟨gb2, hgb2, come⟩ := come_any hTa.out hT.out.2.1 hT.out.2.2 hv.out hS.out hO.out hQm.out hE hp2
                have come := Lib.hid come
                have hbits := Lib.hid (hT.out.2.1.add (nod_okI hv.out hid))
                have p12 : p < 12 := by rw [hnn.out] at hp1; omega
                have pi : (p : Int) < 12 := by omega
                have hrl := Lib.hid (hT.out.2.1.lt hpr)
                clear hE hp2 hp1 he hT hid hAa
                go_wp2_with fail
                refine pl.mono ?_
                rintro e w2 ⟨rfl, B⟩
                have hU := Lib.hid (hTa.out.low B)
                have box := bblk (b := wr.heap.size) B (by simp) hbox.out
                have hbl := lt_of_heap box
                obtain ⟨b0, b1, _, _⟩ := blk2 box
                have sc := add_at w.heap.size 6 pr nr (r pr) w2.drew hpr hnr hU.out.grp.lt (hU.out.grp.cr hpr) (hU.out.grp.free _) hrl.out
                have come := Lib.hid (fun (w7 : World) (o : Nat) (v : Value) (hb : Below w2.drew.heap.size w2.drew w7) => come.out w7 o v (B.trans (((Below.drew (Below.refl _ _)).trans hb).mono B.size)))
                have hgl := hU.out.grp.lt
                clear B hTa pl box hbox x0 x1
                go_wp2_with fail
                go_region_with (go_at_call 77; (with_reducible refine sc.mono ?_); rintro e w6 ⟨rfl, w7, hb, rfl⟩; obtain ⟨r2, rd2, P2, hot, hb2, hGL2⟩ := come.out w7 (6 + pr) (.int .u64 ((r pr ||| 2 ^ nr : Nat) : Int)) hb; have M18 := Lib.hid (((hU.out.low (Below.drew (Below.refl _ _))).low hb).add (p := pr) (n := nr) hpr); have hot := Lib.hid hot; have hb2 := Lib.hid hb2; have hGL2 := Lib.hid hGL2; clear hb come hU b0 b1 hbl hgl)
                all_goals
                  obtain ⟨W8, hW8⟩ : ∃ W, w7.setCell ⟨w.heap.size, 6 + pr, none⟩ (.int .u64 ((r pr ||| 2 ^ nr : Nat) : Int)) = W := ⟨_, rfl⟩
                  rw [hW8] at M18 hot ⊢
                  clear hW8
                  obtain ⟨⟨g6, g7, g8, g9, g10⟩, g11⟩ := hot.out.cells M18.out
                  obtain ⟨k6, k7, k8, k9, k10⟩ := M18.out.grp.rs
                  have fd := M18.out.fi.foc p12
                  rw [hgb2] at fd
                  unfold ptrO at fd
                  have sj := fun W => join_any (nrm (addF r ((pr : Int), (nr : Int)))) (nrm r2) W hbits.out.nrm_lt hb2.out.nrm_lt
                  obtain ⟨jq, hjq⟩ : ∃ j, Hid (joinF (nrm (addF r ((pr : Int), (nr : Int)))) (nrm r2) = j) := ⟨_, Lib.hid rfl⟩
                  rw [hjq.out, nrm_set, nrm_set] at sj
                  unfold setV at sj
                  have hJ : Hid (Bits jq (fun x => (P x ∨ x = ((pr : Int), (nr : Int))) ∨ P2 x)) := Lib.hid (by rw [← hjq.out]; exact hbits.out.nrm.join hb2.out.nrm)
                  have hfl := M18.out.fi.lt
                  have hgl := M18.out.grp.lt
                  go_wp2_with fail
                  go_region_with (go_at_call 34; (with_reducible refine (sj _).mono ?_); rintro e w9 ⟨rfl, hb⟩; have M9 := Lib.hid ((M18.out.low (Below.drew (Below.refl _ _))).low hb); have hot9 := Lib.hid ((hot.out.low (Below.drew (Below.refl _ _))).low hb); obtain ⟨k6, k7, k8, k9, k10⟩ := M9.out.grp.rs; have f6 := M9.out.grp.free 6; have f7 := M9.out.grp.free 7; have f8 := M9.out.grp.free 8; have f9 := M9.out.grp.free 9; have f10 := M9.out.grp.free 10; have hgl := M9.out.grp.lt; clear hb M18 hot g6 g7 g8 g9 g10 g11 fd hfl)
                  all_goals
                    obtain ⟨W10, hW10⟩ : ∃ W, ((((w9.setCell ⟨w.heap.size, 6, none⟩ (.int .u64 (jq 0))).setCell ⟨w.heap.size, 7, none⟩ (.int .u64 (jq 1))).setCell ⟨w.heap.size, 8, none⟩ (.int .u64 (jq 2))).setCell ⟨w.heap.size, 9, none⟩ (.int .u64 (jq 3))).setCell ⟨w.heap.size, 10, none⟩ (.int .u64 (jq 4)) = W := ⟨_, rfl⟩
                    have M10 := M9.out.put jq
                    have h11 := hot9.out.put M9.out jq
                    rw [hW10] at M10 h11 ⊢
                    have c11 := M10.grp.c11
                    have q11 := M10.grp.free 11
                    have fd := M10.fi.foc p12
                    rw [hgb2] at fd
                    unfold ptrO at fd
                    have hfl := M10.fi.lt
                    have hgl := M10.grp.lt
                    have M10 := Lib.hid M10
                    clear hW10 M9 hot9 k6 k7 k8 k9 k10 f6 f7 f8 f9 f10 sj
                    cases rd
                    · go_wp2_with fail
                      refine ⟨⟨kk + 1, jq, _, _, by omega, by go_num, Lib.hid ⟨M10.out.rdy _, hJ.out, by rw [dn1.out]; exact hGL2.out⟩⟩, ?_⟩
                      simp [intOf]; omega
                    · go_wp2_with fail
                      refine ⟨⟨kk + 1, jq, _, _, by omega, by go_num, Lib.hid ⟨M10.out.rdy _, hJ.out, by rw [dn1.out]; exact hGL2.out⟩⟩, ?_⟩
                      simp [intOf]; omega
              · rw [show hasP (idsN N) (dr, dn) = false from decide_eq_false hid] at pl
                have hGL := Lib.hid (hT.out.2.2.miss hid)
                have hbits := Lib.hid hT.out.2.1
                clear hT hid hAa
                go_wp2_with fail
                refine pl.mono ?_
                rintro e w2 ⟨rfl, B⟩
                have hU := Lib.hid (hTa.out.low B)
                have c11 := hU.out.grp.c11
                have q11 := hU.out.grp.free 11
                clear B hTa pl hbox x0 x1
                go_wp2_with fail
                refine ⟨⟨kk + 1, r, _, _, by omega, by go_num, Lib.hid ⟨hU.out.miss, hbits.out, by rw [dn1.out]; exact hGL.out⟩⟩, ?_⟩
                simp [intOf]; omega
            · obtain rfl : kk = dl := by omega
              go_wp2_with fail
              refine ⟨⟨j + 1, r, rd, P, by omega, by go_num, Lib.hid ⟨hT.out.1, hT.out.2.1, by rw [drow.out]; exact hT.out.2.2⟩⟩, ?_⟩
              simp [intOf]; omega
        · obtain rfl : j = k := by omega
          have hgl1 := hS2.out.1.grp.lt
          obtain ⟨_, _, _, z3⟩ := hS2.out.1.fi.cells
          have hfl := hS2.out.1.fi.lt
          obtain ⟨j0, hj0, jz0, jz1, jz2⟩ := info_parts infoG
          have hgr : Hid (∀ i ∈ S, Grp wr w.heap.size N U i) := Lib.hid fun i hi => ⟨mb, mc, Q, f, r, rd, hS2.out.1.grp, hS2.out.1.row, hS2.out.1.typ, by rw [hQ.out.perm.length_eq]; exact hmc, GL.done hv.out hS.out hQ.out.perm (srd_pair hQ.out) hfb.out hS2.out.2.1 (by rw [hql]; exact hS2.out.2.2) hi⟩
          have hge := Lib.hid (fun (o : Obj) (w' : World) (v' : Value) => gat_end (o := o) (w' := w') (v' := v') hS2.out.1 hG.out)
          have hG2 : Hid (wr.ownsRow (fb + 1) 57 1 gv gs.length (gs.map pv)) := Lib.hid (row_same hG.out fun k hk => hS2.out.1.exc.block k (ownb_typ hG.out hk).lt (by have := own_ge hG.out hk; omega))
          clear hS2
          go_wp2_with (at_builtin; refine wpList_append_own _ rfl _ _ 52 rfl (fb + 1) 57 j0 (.pointer none) 1 8 Try.underlying52 hj0 jz0 jz1 jz2 rfl (by decide) gv gs.length (gs.map pv) rfl (hG2.out.alloc _) ⟨wr.heap.size, 0, none⟩ 1 1 [.pointer (some ⟨w.heap.size, 0, none⟩)] rfl rfl (cell_one_new _ _ _) ?c2 ?c3 ?c4 ?c5 ?_)
          case c2 => intro u hu; simp at hu; subst hu; rfl
          case c3 => unfold maxLen; omega
          case c4 => omega
          case c5 => simp; omega
          intro v4 w4 hown4 hgrow4 hnil4
          obtain ⟨g4, c4, rfl⟩ := own_some hown4 (by omega)
          obtain ⟨y1, y2, y3, y4, y5⟩ := hge.out _ w4 _ hown4 hgrow4
          have z4 := y1.free 27
          obtain ⟨_, _, _, z3⟩ := y1.cells
          have hfl := y1.lt
          have y2 := Lib.hid y2
          have y3 := Lib.hid y3
          have y4 := Lib.hid (fun i hi => y4 i (hgr.out i hi))
          have y5 := Lib.hid y5
          clear hown4 hgrow4 hnil4 y1 hge
          go_wp2_with fail
          go_end0
          exact ⟨rfl, w.heap.size, _, Nat.le_refl _, y2.out, y3.out, y4.out, y5.out⟩
end Go.Proofs.Ytbklkhndjckckaa

/- The program's visit: facts. -/
namespace Go.Proofs.Ytbklkhndjckckaa
open Go.RowKit
set_option linter.unusedVariables false

/-- How many were not met. -/
def cnt (n : Nat) (s : TS) : Nat := ((List.range n).filter fun i => decide (s.met i = 0)).length
theorem filter_le {p q : Nat → Bool} : ∀ {L : List Nat}, (∀ i ∈ L, q i = true → p i = true) → (L.filter q).length ≤ (L.filter p).length
  | [], _ => Nat.le_refl _
  | a :: L, h => by
    have ih := filter_le (p := p) (q := q) (L := L) fun i hi => h i (List.mem_cons_of_mem _ hi)
    rw [List.filter_cons, List.filter_cons]
    by_cases hq : q a = true
    · rw [if_pos hq, if_pos (h a List.mem_cons_self hq)]; simp only [List.length_cons]; omega
    · rw [if_neg hq]
      split
      · simp only [List.length_cons]; omega
      · exact ih
theorem filter_lt {p q : Nat → Bool} {x : Nat} (hp : p x = true) (hq : q x = false) : ∀ {L : List Nat}, x ∈ L → (∀ i ∈ L, q i = true → p i = true) → (L.filter q).length < (L.filter p).length
  | [], h, _ => nomatch h
  | a :: L, hx, h => by
    have hle := filter_le (p := p) (q := q) (L := L) fun i hi => h i (List.mem_cons_of_mem _ hi)
    rw [List.filter_cons, List.filter_cons]
    by_cases e : a = x
    · subst e
      rw [hq, if_neg Bool.false_ne_true, if_pos hp]; simp only [List.length_cons]; omega
    · have hx' : x ∈ L := (List.mem_cons.1 hx).resolve_left (fun e' => e e'.symm)
      have ih := filter_lt hp hq hx' fun i hi => h i (List.mem_cons_of_mem _ hi)
      by_cases hqa : q a = true
      · rw [if_pos hqa, if_pos (h a List.mem_cons_self hqa)]; simp only [List.length_cons]; omega
      · rw [if_neg hqa]
        split
        · simp only [List.length_cons]; omega
        · exact ih
theorem TX.cnt {s t : TS} (h : TX s t) (n : Nat) : cnt n t ≤ cnt n s := by
  refine filter_le fun i _ hi => ?_
  rw [decide_eq_true_eq] at hi ⊢
  rcases Nat.eq_zero_or_pos (s.met i) with e | e
  · exact e
  · have := h.met i (by omega); omega
theorem TX.cnt_lt {s t : TS} (h : TX s t) {n x : Nat} (hx : x < n) (h0 : s.met x = 0) (h1 : t.met x ≠ 0) : Proofs.Ytbklkhndjckckaa.cnt n t < Proofs.Ytbklkhndjckckaa.cnt n s := by
  refine filter_lt (x := x) (decide_eq_true h0) (decide_eq_false h1) (List.mem_range.2 hx) fun i _ hi => ?_
  rw [decide_eq_true_eq] at hi ⊢
  rcases Nat.eq_zero_or_pos (s.met i) with e | e
  · exact e
  · have := h.met i (by omega); omega
theorem cnt_le (n : Nat) (s : TS) : cnt n s ≤ n := by
  have := List.length_filter_le (fun i => decide (s.met i = 0)) (List.range n)
  rw [List.length_range] at this; exact this

theorem nodup_lenN : ∀ {A B : List Nat}, A.Nodup → (∀ x ∈ A, x ∈ B) → A.length ≤ B.length
  | [], B, _, _ => Nat.zero_le _
  | a :: A, B, h, hs => by
    have h' := List.nodup_cons.1 h
    have ha := hs a List.mem_cons_self
    obtain ⟨X, Y, rfl⟩ := List.append_of_mem ha
    have := nodup_lenN (B := X ++ Y) h'.2 fun x hx => by
      have hxx := hs x (List.mem_cons_of_mem _ hx)
      rcases List.mem_append.1 hxx with h1 | h1
      · exact List.mem_append_left _ h1
      · rcases List.mem_cons.1 h1 with e | h1
        · subst e; exact absurd hx h'.1
        · exact List.mem_append_right _ h1
    simp only [List.length_append, List.length_cons] at this ⊢
    omega
theorem TI.nodup {E : Nat → Nat → Prop} {n : Nat} {s : TS} {G : List Nat} (h : TI E n s G) : s.stack.Nodup := List.Pairwise.imp (fun {a b} hab e => by subst e; exact absurd hab (Nat.lt_irrefl _)) h.up
theorem TI.slen {E : Nat → Nat → Prop} {n : Nat} {s : TS} {G : List Nat} (h : TI E n s G) : s.stack.length ≤ n := by
  have := nodup_lenN (B := List.range n) h.nodup fun x hx => List.mem_range.2 (h.lt x ((h.st x).1 hx).1)
  rw [List.length_range] at this; exact this

/-- What a visit leaves in memory. -/
def VisP (N : List Nd) (U : Us) (fb : Nat) (v0 : Value) (w0 : World) (s : TS) (gs : List Nat) (G : List Nat) (x : Nat) (e : Ending) (w' : World) : Prop :=
  ∃ r s' gs' sv' gv', e = .returned (nv r) ∧ FS N U fb v0 w0 w' s' gs' sv' gv' ∧ TP (EN N) N.length s G x s' r ∧ s'.many + cnt N.length s' ≤ 12 ∧ gs'.length + s.many ≤ gs.length + s'.many

/-- Within a visit: k deps have been looked at. -/
structure VL (N : List Nd) (U : Us) (fb : Nat) (v0 : Value) (w0 : World) (s : TS) (gs : List Nat) (G : List Nat) (x : Nat) (wr : World) (k r : Nat) (t : TS) (gt : List Nat) (sv gv : Value) : Prop where
  fs : FS N U fb v0 w0 wr t gt sv gv
  tl : TL (EN N) N.length s G x (fun j => j < N.length ∧ (N.getD j nd0).id ∈ (N.getD x nd0).deps.take k) t r
  cm : t.many + cnt N.length t ≤ 12
  gm : gt.length + s.many + 1 ≤ gs.length + t.many

theorem FS.up {N : List Nd} {U : Us} {fb : Nat} {v0 : Value} {w0 w w' : World} {s : TS} {gs : List Nat} {sv gv : Value} (h : FS N U fb v0 w0 w s gs sv gv) (hb : Below w.heap.size w w') : FS N U fb v0 w0 w' s gs sv gv :=
  ⟨h.bel.trans (hb.mono (Nat.le_of_lt h.fi.lt)), h.fi.same (hb.block fb h.fi.lt), row_same h.srow (fun k hk => hb.block k (ownb_typ h.srow hk).lt), row_same h.grow (fun k hk => hb.block k (ownb_typ h.grow hk).lt), fun i b hi => (h.grp i b hi).keep (Exv.of hb), h.mem⟩

section
variable {N : List Nd} {U : Us} {fb : Nat} {v0 : Value} {w0 : World} {s : TS} {gs G : List Nat} {x : Nat} {wr : World} {k r : Nat} {t : TS} {gt : List Nat} {sv gv : Value}
theorem VL.up (h : VL N U fb v0 w0 s gs G x wr k r t gt sv gv) {w' : World} (hb : Below wr.heap.size wr w') : VL N U fb v0 w0 s gs G x w' k r t gt sv gv := ⟨h.fs.up hb, h.tl, h.cm, h.gm⟩
theorem dep_next {d : Pid} (hk : k < (N.getD x nd0).deps.length) (hd : (N.getD x nd0).deps.getD k nop = d) {j : Nat} (h : j < N.length ∧ (N.getD j nd0).id ∈ (N.getD x nd0).deps.take (k + 1)) : (j < N.length ∧ (N.getD j nd0).id ∈ (N.getD x nd0).deps.take k) ∨ (j < N.length ∧ (N.getD j nd0).id = d) := by
  obtain ⟨h1, h2⟩ := h
  rw [take_next hk, hd] at h2
  rcases List.mem_append.1 h2 with h2 | h2
  · exact .inl ⟨h1, h2⟩
  · exact .inr ⟨h1, List.mem_singleton.1 h2⟩
theorem VL.miss (h : VL N U fb v0 w0 s gs G x wr k r t gt sv gv) (hs : TI (EN N) N.length s G) {d : Pid} (hk : k < (N.getD x nd0).deps.length) (hd : (N.getD x nd0).deps.getD k nop = d) (hn : ¬ d ∈ idsN N) : VL N U fb v0 w0 s gs G x wr (k + 1) r t gt sv gv :=
  ⟨h.fs, h.tl.skip hs fun j hj => (dep_next hk hd hj).imp id fun ⟨h1, h2⟩ => absurd (by rw [← h2]; exact List.mem_map_of_mem (getD_mem h1)) hn, h.cm, h.gm⟩
theorem VL.known (h : VL N U fb v0 w0 s gs G x wr k r t gt sv gv) (hs : TI (EN N) N.length s G) (hv : nodB N = true) {d : Pid} (hk : k < (N.getD x nd0).deps.length) (hd : (N.getD x nd0).deps.getD k nop = d) {p b : Nat} (hp : p < N.length) (hpd : (N.getD p nd0).id = d) (hf : t.found p = some b) : VL N U fb v0 w0 s gs G x wr (k + 1) r t gt sv gv :=
  ⟨h.fs, h.tl.skip hs fun j hj => (dep_next hk hd hj).imp id fun ⟨h1, h2⟩ => ⟨b, by rw [nod_inj hv h1 hp (h2.trans hpd.symm)]; exact hf⟩, h.cm, h.gm⟩
theorem VL.wait (h : VL N U fb v0 w0 s gs G x wr k r t gt sv gv) (hs : TI (EN N) N.length s G) (hv : nodB N = true) {d : Pid} (hk : k < (N.getD x nd0).deps.length) (hd : (N.getD x nd0).deps.getD k nop = d) {p : Nat} (hp : p < N.length) (hpd : (N.getD p nd0).id = d) (hE : EN N x p) (hm : t.met p ≠ 0) (hf : t.found p = none) : VL N U fb v0 w0 s gs G x wr (k + 1) (min r (t.met p)) t gt sv gv :=
  ⟨h.fs, h.tl.wait hs hE hm hf fun j hj => (dep_next hk hd hj).imp id fun ⟨h1, h2⟩ => nod_inj hv h1 hp (h2.trans hpd.symm), h.cm, h.gm⟩
theorem VL.visit (h : VL N U fb v0 w0 s gs G x wr k r t gt sv gv) (hs : TI (EN N) N.length s G) (hv : nodB N = true) {d : Pid} (hk : k < (N.getD x nd0).deps.length) (hd : (N.getD x nd0).deps.getD k nop = d) {p : Nat} (hp : p < N.length) (hpd : (N.getD p nd0).id = d) (hE : EN N x p) (hm : t.met p = 0)
    {q : Nat} {t' : TS} {gt' : List Nat} {sv' gv' : Value} {w' : World} (hf : FS N U fb v0 w0 w' t' gt' sv' gv') (hT : TP (EN N) N.length t (x :: G) p t' q) (hc : t'.many + cnt N.length t' ≤ 12) (hg : gt'.length + t.many ≤ gt.length + t'.many) : VL N U fb v0 w0 s gs G x w' (k + 1) (min r q) t' gt' sv' gv' :=
  ⟨hf, h.tl.visit hs hE hm hT fun j hj => (dep_next hk hd hj).imp id fun ⟨h1, h2⟩ => nod_inj hv h1 hp (h2.trans hpd.symm), hc, by have := h.gm; omega⟩
end
theorem row_shape {w : World} {B : Nat} {e : TypeId} {size : Nat} {v : Value} {n : Nat} {xs : List Value} (h : w.ownsRow B e size v n xs) : ∃ a cap, v = .slice a n cap := by
  rcases h.2 with ⟨e, h0⟩ | ⟨g, cap, cur, e, _⟩
  · subst h0; exact ⟨none, 0, e⟩
  · exact ⟨_, cap, e⟩
theorem FS.store {N : List Nd} {U : Us} {fb : Nat} {v0 : Value} {w0 w : World} {s s' : TS} {gs : List Nat} {sv gv : Value} (h : FS N U fb v0 w0 w s gs sv gv) {o : Nat} {v : Value} (hf : Fi (w.setCell ⟨fb, o, none⟩ v) fb v0 sv gv s'.many s'.met s'.found) (h1 : s'.stack = s.stack) (h2 : s'.found = s.found) :
    FS N U fb v0 w0 (w.setCell ⟨fb, o, none⟩ v) s' gs sv gv := by
  have ho : ∀ k, fb + 1 ≤ k → (w.setCell ⟨fb, o, none⟩ v).heap[k]? = w.heap[k]? := fun k hk => heap_setCell_other _ _ _ _ (by show k ≠ fb; omega)
  refine ⟨h.bel.setCell (p := ⟨fb, o, none⟩) (Nat.le_refl _) v, hf, ?_, row_same h.grow (fun k hk => ho k (own_ge h.grow hk)), fun i b hi => ?_, ?_⟩
  · rw [h1]; exact row_same h.srow (fun k hk => ho k (own_ge h.srow hk))
  · rw [h2] at hi; exact (h.grp i b hi).keep ((Exv.refl w).set (.inl h.fi.typ) o v)
  · rw [h2]; exact h.mem
theorem FS.push {N : List Nd} {U : Us} {fb : Nat} {v0 : Value} {w0 w : World} {s : TS} {gs : List Nat} {sv gv : Value} (h : FS N U fb v0 w0 w s gs sv gv) {o : Obj} {w' : World} {v' : Value} {x : Nat}
    (hown : w'.ownsRow (fb + 1) 3 1 v' (s.stack.length + 1) (s.stack.map nv ++ [nv x])) (hg : (w.alloc o).grownBy w' sv.ownBlock) :
    Fi w' fb v0 sv gv s.many s.met s.found ∧ FS N U fb v0 w0 (w'.setCell ⟨fb, 1, none⟩ v') ⟨s.many, s.met, s.stack ++ [x], s.found⟩ gs v' gv := by
  have hU := h.up ((Below.refl _ _).alloc (Nat.le_refl _) o)
  have hne : ∀ k, sv.ownBlock = some k → k ≠ fb := fun k hk => by have := own_ge h.srow hk; omega
  have hfi := hU.fi.same (hg.block fb hU.fi.lt (fun e => hne fb e.symm rfl))
  have e1 : Exv (w.alloc o) w' := Exv.grown hU.srow hg (.inl rfl)
  have ho : ∀ k, fb + 1 ≤ k → (w'.setCell ⟨fb, 1, none⟩ v').heap[k]? = w'.heap[k]? := fun k hk => heap_setCell_other _ _ _ _ (by show k ≠ fb; omega)
  refine ⟨hfi, ?_, hfi.setStack v', ?_, ?_, fun i b hi => ((hU.grp i b hi).keep e1).keep ((Exv.refl _).set (.inl hfi.typ) _ _), h.mem⟩
  · have hb0 : Below fb w0 w' := by
      refine ⟨hg.os.trans hU.bel.os, hg.tape.trans hU.bel.tape, hg.output.trans hU.bel.output, Nat.le_trans hU.bel.size hg.size, fun b hb => ?_⟩
      exact (hg.block b (by have := hU.fi.lt; omega) (fun e => by have := own_ge h.srow e.symm; omega)).trans (hU.bel.block b hb)
    exact hb0.setCell (p := ⟨fb, 1, none⟩) (Nat.le_refl _) v'
  · refine row_same (by rw [List.map_append, List.length_append]; exact hown) fun k hk => ho k (own_ge hown hk)
  · refine row_same hU.grow fun k hk => ?_
    rw [ho k (own_ge hU.grow hk)]
    refine hg.block k (ownb_typ hU.grow hk).lt fun e => ?_
    have := (ownb_typ hU.grow hk).uniq (ownb_typ hU.srow e.symm)
    exact absurd this (by decide)
theorem Exc.exv {w w' : World} {fb : Nat} (h : Exc (fun b => b = fb ∨ fb < b ∧ Typ w b 57) w w') (hf : Typ w fb 88) : Exv w w' := h.mono fun b e => by
  rcases e with e | e
  · exact .inl (by rw [e]; exact hf)
  · exact .inr (.inr e.2)
theorem FS.close {N : List Nd} {U : Us} {fb : Nat} {v0 : Value} {w0 w : World} {t : TS} {gs : List Nat} {sv gv : Value} (h : FS N U fb v0 w0 w t gs sv gv) {S A : List Nat} {gb : Nat} {gv' cv : Value} {w' : World}
    (hS : ∀ i ∈ S, t.found i = none) (hS0 : 0 < S.length) (hfi : Fi w' fb v0 sv gv' t.many t.met (fun i => if i ∈ S then some gb else t.found i)) (hrow : w'.ownsRow (fb + 1) 57 1 gv' (gs ++ [gb]).length ((gs ++ [gb]).map pv))
    (hgr : ∀ i ∈ S, Grp w' gb N U i) (he : Exc (fun b => b = fb ∨ fb < b ∧ Typ w b 57) w w') (hcut : w.ownsRow (fb + 1) 3 1 cv A.length (A.map nv)) :
    FS N U fb v0 w0 (w'.setCell ⟨fb, 1, none⟩ cv) (t.close S gb A) (gs ++ [gb]) cv gv' := by
  have ho : ∀ k, fb + 1 ≤ k → (w'.setCell ⟨fb, 1, none⟩ cv).heap[k]? = w'.heap[k]? := fun k hk => heap_setCell_other _ _ _ _ (by show k ≠ fb; omega)
  have ev := he.exv h.fi.typ
  have es : Exv w' (w'.setCell ⟨fb, 1, none⟩ cv) := (Exv.refl _).set (.inl hfi.typ) _ _
  have hbl : Below fb w w' := by
    refine he.to (Nat.le_of_lt h.fi.lt) fun b hb => ?_
    rcases hb with hb | hb <;> omega
  refine ⟨(h.bel.trans hbl).setCell (p := ⟨fb, 1, none⟩) (Nat.le_refl _) cv, hfi.setStack cv, row_same hcut fun k hk => ?_, row_same hrow fun k hk => ho k (own_ge hrow hk), fun i b hi => ?_, fun b => ?_⟩
  · rw [ho k (own_ge hcut hk)]
    have ht := ownb_typ hcut hk
    refine he.block k ht.lt fun e => ?_
    rcases e with e | e
    · have := own_ge hcut hk; omega
    · exact absurd (ht.uniq e.2) (by decide)
  · have hi' : (if i ∈ S then some gb else t.found i) = some b := hi
    by_cases hiS : i ∈ S
    · rw [if_pos hiS] at hi'; cases hi'; exact (hgr i hiS).keep es
    · rw [if_neg hiS] at hi'; exact ((h.grp i b hi').keep ev).keep es
  · show b ∈ gs ++ [gb] ↔ ∃ i, (if i ∈ S then some gb else t.found i) = some b
    rw [List.mem_append, List.mem_singleton]
    constructor
    · rintro (hb | rfl)
      · obtain ⟨i, hi⟩ := (h.mem b).1 hb
        refine ⟨i, ?_⟩
        rw [if_neg (fun hiS => by rw [hS i hiS] at hi; cases hi)]; exact hi
      · exact ⟨S[0], if_pos (List.getElem_mem _)⟩
    · rintro ⟨i, hi⟩
      by_cases hiS : i ∈ S
      · rw [if_pos hiS] at hi; cases hi; exact .inr rfl
      · rw [if_neg hiS] at hi; exact .inl ((h.mem b).2 ⟨i, hi⟩)
end Go.Proofs.Ytbklkhndjckckaa

/- The program's visit. -/
namespace Go.Proofs.Ytbklkhndjckckaa
open Go.RowKit
set_option linter.unusedVariables false

theorem infoI : (Try.prog.info? 3).map (fun i => (i.zero, i.size, i.bytes)) = some (some (.int .i64 0), 1, 8) := by kernel_rfl

set_option maxRecDepth 100000 in
set_option maxHeartbeats 8000000 in
theorem visit_any (fb g off cp : Nat) (N : List Nd) (U : Us) (w0 : World) (hv : nodB N = true) (hA : NdAt w0 g off N U) (h0 : w0.heap.size ≤ fb) :
    ∀ (c : Nat) (s : TS) (gs : List Nat) (sv gv : Value) (G : List Nat) (x : Nat) (w : World), cnt N.length s < c → FS N U fb (.slice (some ⟨g, off, none⟩) N.length cp) w0 w s gs sv gv → TI (EN N) N.length s G → x < N.length → s.met x = 0 → (∀ y ∈ G, Rt (EN N) y x) → (∀ y ∈ G, y ∈ s.stack) → s.many + cnt N.length s ≤ 12 → gs.length ≤ s.many →
      Calls Try.prog 56 #[.pointer (some ⟨fb, 0, none⟩), .int .i64 x] w (VisP N U fb (.slice (some ⟨g, off, none⟩) N.length cp) w0 s gs G x) := by
  obtain ⟨i0, hi, hz0, hz1, hz2⟩ := info_parts infoI
  have hNl := (nod_of hv).1
  have hv := Lib.hid hv
  have hA := Lib.hid hA
  obtain ⟨nn, hnn⟩ : ∃ n, Hid (N.length = n) := ⟨_, Lib.hid rfl⟩
  intro c
  induction c with
  | zero => intro s gs sv gv G x w h; exact absurd h (Nat.not_lt_zero _)
  | succ c ih =>
    intro s gs sv gv G x w hc hF hT hx hx0 hGr hGs hcm hgm
    have ih := Lib.hid ih
    have hT := Lib.hid hT
    have hGr := Lib.hid hGr
    have hGs := Lib.hid hGs
    have hF := Lib.hid hF
    have hx0 := Lib.hid hx0
    have hc := Lib.hid hc
    have hm12 : s.many ≤ 11 := by
      have : 0 < cnt N.length s := by
        have := (hT.out.enter hx hx0.out hGr.out).2.cnt_lt hx hx0.out (by show (if x = x then s.many + 1 else s.met x) ≠ 0; rw [if_pos rfl]; omega)
        omega
      omega
    have hsl := hT.out.slen
    have hx12 : x < 12 := by omega
    have xi : (x : Int) < 12 := by omega
    have xi0 : (0 : Int) ≤ (x : Int) := by omega
    have hcm := Lib.hid hcm
    have hsl := Nat.le_trans hsl hNl
    obtain ⟨_, _, c2, _⟩ := hF.out.fi.cells
    unfold nv at c2
    have hfl := hF.out.fi.lt
    have f2 := hF.out.fi.free 2
    have F1 := Lib.hid (hF.out.store (s' := ⟨s.many + 1, s.met, s.stack, s.found⟩) (hF.out.fi.setMany (s.many + 1)) rfl rfl)
    have hw1 : IntKind.i64.wrap ((s.many : Int) + 1) = ((s.many + 1 : Nat) : Int) := by rw [IntWalk.i64_in _ (by omega)]; omega
    go_enter Try.func56, Try.ntmps56
    go_wp2_with fail
    obtain ⟨W1, hW1⟩ : ∃ W, w.setCell ⟨fb, 2, none⟩ (.int .i64 ((s.many : Int) + 1)) = W := ⟨_, rfl⟩
    have F1 : Hid (FS N U fb (.slice (some ⟨g, off, none⟩) N.length cp) w0 W1 ⟨s.many + 1, s.met, s.stack, s.found⟩ gs sv gv) := Lib.hid (by rw [← hW1]; exact F1.out)
    rw [hW1]
    clear hW1 c2 f2 hfl
    obtain ⟨sa, scp, rfl⟩ := row_shape F1.out.srow
    dsimp only at F1
    obtain ⟨_, e1, e2, _⟩ := F1.out.fi.cells
    unfold nv at e2
    have e2 : W1.cell? ⟨fb, 2, none⟩ = some (.int .i64 ((s.many : Int) + 1)) := e2
    go_quiet (fail)
    obtain ⟨W2, hW2⟩ : ∃ W, W1.drewN nq = W := ⟨_, rfl⟩
    have F1 : Hid (FS N U fb (.slice (some ⟨g, off, none⟩) N.length cp) w0 W2 ⟨s.many + 1, s.met, s.stack, s.found⟩ gs (.slice sa s.stack.length scp) gv) := Lib.hid (by rw [← hW2]; exact F1.out.up (bdrewN (Below.refl _ _) _))
    rw [hW2]
    clear hW2 e1 e2
    have m3 := F1.out.fi.metc hx12
    unfold nv at m3
    have fr3 := F1.out.fi.free (3 + x)
    have hfl := F1.out.fi.lt
    have F2 := Lib.hid (F1.out.store (o := 3 + x) (v := .int .i64 ((s.many : Int) + 1)) (s' := ⟨s.many + 1, fun i => if i = x then s.many + 1 else s.met i, s.stack, s.found⟩) (F1.out.fi.setMet hx12 (s.many + 1)) rfl rfl)
    go_upto_region 4 with fail
    obtain ⟨W3, hW3⟩ : ∃ W, W2.setCell ⟨fb, 3 + x, none⟩ (.int .i64 ((s.many : Int) + 1)) = W := ⟨_, rfl⟩
    rw [hW3] at F2 ⊢
    clear hW3 m3 fr3 hfl F1
    obtain ⟨_, e1, _, _⟩ := F2.out.fi.cells
    have hps := Lib.hid (fun (o : Obj) (w' : World) (v' : Value) => F2.out.push (x := x) (o := o) (w' := w') (v' := v'))
    have rr := Lib.hid F2.out.srow
    have hfl := F2.out.fi.lt
    dsimp only at rr hps
    clear F2
    go_wp2_with (at_builtin; refine wpList_append_own _ rfl _ _ 71 rfl (fb + 1) 3 i0 (.int .i64 0) 1 8 Try.underlying71 hi hz0 hz1 hz2 rfl (by decide) (.slice sa s.stack.length scp) s.stack.length (s.stack.map nv) rfl (rr.out.alloc _) ⟨W3.heap.size, 0, none⟩ 1 1 [.int .i64 x] rfl rfl (cell_one_new _ _ _) ?c2 ?c3 ?c4 ?c5 ?_)
    case c2 => first | rfl | (intro u hu; simp at hu; subst hu; rfl)
    case c3 => unfold maxLen; omega
    case c4 => omega
    case c5 => first | omega | (simp; omega)
    intro v4 w4 hown4 hgrow4 hnil4
    obtain ⟨g4, c4, rfl⟩ := own_some hown4 (by omega)
    obtain ⟨y1, y2⟩ := hps.out _ w4 _ hown4 hgrow4
    have f1 := y1.free 1
    obtain ⟨_, e1, _, _⟩ := y1.cells
    have hfl := y1.lt
    have F3 := Lib.hid y2
    clear hown4 hgrow4 hnil4 y1 y2 hps rr
    go_upto_region 5 with fail
    obtain ⟨W4, hW4⟩ : ∃ W, w4.setCell ⟨fb, 1, none⟩ (.slice (some ⟨g4, 0, none⟩) (s.stack.length + 1) c4) = W := ⟨_, rfl⟩
    rw [hW4] at F3 ⊢
    clear hW4 f1 e1 hfl
    have T0 := TL.start hT.out hx hx0.out hGr.out
    have hV : Hid (VL N U fb (.slice (some ⟨g, off, none⟩) N.length cp) w0 s gs G x W4 0 (s.many + 1) (s.enter x) gs (.slice (some ⟨g4, 0, none⟩) (s.stack.length + 1) c4) gv) := Lib.hid ⟨F3.out, ⟨T0.ti, T0.tx, T0.mx, T0.st, T0.at_, fun j hj => absurd hj.2 (by simp)⟩, by
      have := T0.tx.cnt_lt hx hx0.out (by rw [T0.mx]; exact Nat.succ_ne_zero _)
      have h2 := hcm.out
      show s.many + 1 + cnt N.length (s.enter x) ≤ 12
      omega, by show gs.length + s.many + 1 ≤ gs.length + (s.many + 1); omega⟩
    obtain ⟨e0, _, _, _⟩ := F3.out.fi.cells
    have hA4 := Lib.hid (hA.out.up F3.out.bel h0)
    obtain ⟨_, _, _, x3⟩ := hA4.out.cell x hx
    have hgl := hA4.out.lt
    have hids := hA.out.ids x hx
    obtain ⟨dl, hdl⟩ : ∃ n, Hid ((N.getD x nd0).deps.length = n) := ⟨_, Lib.hid rfl⟩
    obtain ⟨ua, uc, hue, hds⟩ := hids
    injection hue with q1 q2 q3
    rw [q1, q2, q3, hdl.out] at x3
    rw [hdl.out] at hds
    have hds := Lib.hid hds
    clear q1 q2 q3 F3 T0
    have hx' : x < nn := by rw [← hnn.out]; exact hx
    rw [hnn.out] at e0
    go_wp2_with fail
    go_loopw [6, 57] (fun fi i wr => ∃ (k r : Nat) (t : TS) (gt : List Nat) (sv gv : Value), k ≤ dl ∧ i = .int .i64 k ∧ fi = .int .i64 r ∧ Hid (VL N U fb (.slice (some ⟨g, off, none⟩) N.length cp) w0 s gs G x wr k r t gt sv gv)) (fun _ i _ => dl - (intOf i).toNat)
    case atStart => exact ⟨0, s.many + 1, _, _, _, _, Nat.zero_le _, rfl, rfl, hV⟩
    case round =>
      clear hV e0 hA4 x3 hgl
      obtain ⟨k, r, t, gt, sv, gv, hk, rfl, rfl, hV⟩ := hrel
      by_cases hkl : k < dl
      · obtain ⟨db, dof, rfl, hdb, hdc⟩ := hds.out.2.2.resolve_left (by omega)
        obtain ⟨x0, x1⟩ := hdc k hkl
        clear hdc
        have B2 := hV.out.fs.bel
        have x0 := (B2.cell (p := ⟨db, dof + k * 2, none⟩) (Nat.lt_of_lt_of_le hdb h0)).trans x0
        have x1 := (B2.cell (p := ⟨db, dof + k * 2 + 1, none⟩) (Nat.lt_of_lt_of_le hdb h0)).trans x1
        have hdb2 : db < wr.heap.size := Nat.lt_of_lt_of_le (Nat.lt_of_lt_of_le hdb h0) (Nat.le_of_lt hV.out.fs.fi.lt)
        have hkl2 : k < (N.getD x nd0).deps.length := by rw [hdl.out]; exact hkl
        have hdm : (N.getD x nd0).deps.getD k nop ∈ (N.getD x nd0).deps := getD_memP hkl2
        obtain ⟨d, hd⟩ : ∃ d, Hid ((N.getD x nd0).deps.getD k nop = d) := ⟨_, Lib.hid rfl⟩
        rw [hd.out] at x0 x1 hdm
        obtain ⟨dr, dn⟩ := d
        dsimp only at x0 x1
        have hdm := Lib.hid hdm
        have hVa := Lib.hid (hV.out.up ((Below.refl _ _).alloc (Nat.le_refl _) (.cells #[.int .i64 dr, .int .i64 dn] 31)))
        have hAa := Lib.hid (hA.out.up hVa.out.fs.bel h0)
        have pl := place_any fb g off cp N dr dn _ hv.out hAa.out.lt hAa.out.ins hVa.out.fs.fi.cells.1
        clear B2 hdb hV
        by_cases hid : (dr, dn) ∈ idsN N
        · rw [show hasP (idsN N) (dr, dn) = true from decide_eq_true hid] at pl
          obtain ⟨hp1, hp2⟩ := pos_node hv.out hid
          obtain ⟨p, hp⟩ : ∃ p, Hid (posP (idsN N) (dr, dn) = p) := ⟨_, Lib.hid rfl⟩
          rw [hp.out] at pl hp1 hp2
          have hE : EN N x p := ⟨hx, hp1, by rw [hp2]; exact hdm.out⟩
          have hE := Lib.hid hE
          have hp2 := Lib.hid hp2
          have hp1' := Lib.hid hp1
          have p12 : p < 12 := by omega
          have pi : (p : Int) < 12 := by omega
          clear hid hAa hp1
          go_wp2_with fail
          refine pl.mono ?_
          rintro e w2 ⟨rfl, B⟩
          have hU := Lib.hid (hVa.out.up B)
          have m3 := hU.out.fs.fi.metc p12
          unfold nv at m3
          have o3 := hU.out.fs.fi.foc p12
          clear B hVa pl x0 x1
          by_cases hm : t.met p = 0
          · rw [hm] at m3
            have st : ∃ T, t.stack = s.stack ++ x :: T := by obtain ⟨T, hT, _⟩ := hU.out.tl.st; exact ⟨T, hT⟩
            obtain ⟨T, hst⟩ := st
            have cl := ih.out t gt sv gv (x :: G) p w2 (by
                have := hU.out.tl.tx.cnt_lt hx hx0.out (by rw [hU.out.tl.mx]; exact Nat.succ_ne_zero _)
                have := hc.out; omega) hU.out.fs hU.out.tl.ti hp1'.out hm (fun y hy => by
                rcases List.mem_cons.1 hy with e | hy
                · subst e; exact .one hE.out
                · exact (hGr.out y hy).trans (.one hE.out)) (fun y hy => by
                rw [hst]
                rcases List.mem_cons.1 hy with e | hy
                · subst e; exact List.mem_append_right _ List.mem_cons_self
                · exact List.mem_append_left _ (hGs.out y hy)) hU.out.cm (by have := hU.out.gm; omega)
            go_wp2_with fail
            refine cl.mono ?_
            rintro e w3 ⟨q, t', gt', sv', gv', rfl, hF', hT', hc', hg'⟩
            have R := Lib.hid (hU.out.visit hT.out hv.out hkl2 hd.out hp1'.out hp2.out hE.out hm hF' hT' hc' hg')
            unfold nv
            clear cl hF' hT' hc' hg' m3 o3 hU
            go_wp2_with fail
            refine ⟨⟨k + 1, min r q, _, _, _, _, by omega, by go_num, by congr 1; split <;> omega, R⟩, ?_⟩
            simp [intOf]; omega
          · have hmi : ¬ ((t.met p : Int) = 0) := by omega
            cases hf : t.found p with
            | none =>
              have R := Lib.hid (hU.out.wait hT.out hv.out hkl2 hd.out hp1'.out hp2.out hE.out hm hf)
              rw [hf] at o3
              unfold ptrO at o3
              go_wp2_with fail
              refine ⟨⟨k + 1, min r (t.met p), _, _, _, _, by omega, by go_num, by congr 1; split <;> omega, R⟩, ?_⟩
              simp [intOf]; omega
            | some b =>
              have R := Lib.hid (hU.out.known hT.out hv.out hkl2 hd.out hp1'.out hp2.out hf)
              rw [hf] at o3
              unfold ptrO at o3
              go_wp2_with fail
              refine ⟨⟨k + 1, r, _, _, _, _, by omega, by go_num, rfl, R⟩, ?_⟩
              simp [intOf]; omega
        · rw [show hasP (idsN N) (dr, dn) = false from decide_eq_false hid] at pl
          go_wp2_with fail
          refine pl.mono ?_
          rintro e w2 ⟨rfl, B⟩
          have R := Lib.hid ((hVa.out.up B).miss hT.out hkl2 hd.out hid)
          clear B hVa pl x0 x1 hid
          go_wp2_with fail
          refine ⟨⟨k + 1, r, _, _, _, _, by omega, by go_num, rfl, R⟩, ?_⟩
          simp [intOf]; omega
      · obtain rfl : k = dl := by omega
        have hD : ∀ j, EN N x j → j < N.length ∧ (N.getD j nd0).id ∈ (N.getD x nd0).deps.take k := fun j hj => ⟨hj.2.1, by rw [← hdl.out, List.take_length]; exact hj.2.2⟩
        by_cases hr : r = s.many + 1
        · subst hr
          obtain ⟨T, hst, _⟩ := hV.out.tl.st
          obtain ⟨_, gr2, gr3, gr4⟩ := hV.out.tl.group hT.out hGs.out hD hst
          have hSp := List.pairwise_append.1 (by rw [← hst]; exact hV.out.tl.ti.nodup)
          have hGS : GS N (x :: T) := ⟨fun i hi => (gr4 i hi).1, hSp.2.1, gr3⟩
          have hcl := Lib.hid (fun (b : Nat) (hb : wr.heap.size ≤ b) => hV.out.tl.close hT.out hGs.out hD hst (b := b) (fun i c hc => by
            obtain ⟨mb', cap', Q', f2, r2, rd2, hgr⟩ := hV.out.fs.grp i c hc
            have := hgr.gb.lt; omega))
          have hrow : wr.ownsRow (fb + 1) 3 1 sv ((s.stack.map nv).length + ((x :: T).map nv).length) (s.stack.map nv ++ (x :: T).map nv) := by
            have := hV.out.fs.srow
            rw [hst, List.map_append, List.length_append] at this
            rw [List.length_map, List.length_map]; exact this
          obtain ⟨sb, scap, cur, rfl, hsb, hsg, hle, hscm, hcut, hcells⟩ := row_cut hrow (by simp)
          rw [List.length_map] at hle hcut hcells
          rw [List.length_map] at hle hcells
          have ga := fun (so sc : Nat) (hso : so = s.stack.length) => gather_any fb g off cp sb so sc gv (.slice (some ⟨sb, 0, none⟩) ((s.stack.map nv).length + ((x :: T).map nv).length) scap) N U (x :: T) gt t.many t.met t.found w0 wr hv.out hA.out h0 hV.out.fs.bel hV.out.fs.fi hGS (by simp) ⟨cur, hsg⟩ (fun i hi => by
              subst hso
              rw [hcells i hi, List.getElem?_map, List.getD_eq_getElem?_getD, List.getElem?_eq_getElem hi]; rfl) hV.out.fs.grow (by have := hV.out.gm; have := hV.out.cm; omega) (fun i hi j hj hjn => by
              rcases gr2 i hi j hj with h1 | ⟨b, hb⟩
              · exact absurd h1 hjn
              · exact ⟨b, hb, hV.out.fs.grp j b hb⟩)
          obtain ⟨_, e1, _, _⟩ := hV.out.fs.fi.cells
          have hfl := hV.out.fs.fi.lt
          have hF := hV.out.fs
          have hcm2 := hV.out.cm
          have hgm2 := hV.out.gm
          have hnf := Lib.hid (fun i hi => (gr4 i hi).2)
          have hcut := Lib.hid hcut
          have hre : ((s.many + 1 : Nat) : Int) = (s.many : Int) + 1 := rfl
          rw [List.length_map, List.length_map] at ga e1 hF
          obtain ⟨n1, hn1⟩ : ∃ n, Hid (s.stack.length = n) := ⟨_, Lib.hid rfl⟩
          obtain ⟨n2, hn2⟩ : ∃ n, Hid ((x :: T).length = n) := ⟨_, Lib.hid rfl⟩
          have n20 : 0 < n2 := by rw [← hn2.out]; simp
          rw [hn1.out] at ga e1 hle hsl hF
          rw [hn2.out] at ga e1 hle hF
          have hF := Lib.hid hF
          rw [hn1.out]
          have s1 : IntKind.i64.wrap (n1 : Int) = (n1 : Int) := IntWalk.i64_in _ (by omega)
          clear hV hrow hcells hD hst gr2 gr3 gr4 hSp hGS
          go_wp2_with fail
          refine (ga n1 (scap - n1) rfl).mono ?_
          rintro e w2 ⟨rfl, gb, gv', hgb, hfi, hgro, hgr, hex⟩
          have R := hF.out.close (S := x :: T) (A := s.stack) hnf.out (by simp) hfi hgro hgr hex hcut.out
          rw [hn1.out] at R
          have hcl2 := hcl.out gb hgb
          have R := Lib.hid (⟨R, hcl2, hcm2, by rw [List.length_append, List.length_singleton]; show _ ≤ _ + t.many; omega⟩ : _ ∧ _ ∧ t.many + cnt N.length t ≤ 12 ∧ (gt ++ [gb]).length + s.many ≤ gs.length + ((t.close (x :: T) gb s.stack).many))
          obtain ⟨_, e1, _, _⟩ := hfi.cells
          have f1 := hfi.free 1
          have hfl := hfi.lt
          clear ga hfi hgro hgr hex hF hcut hcl hcl2 hnf
          go_wp2_with fail
          go_ret
          exact ⟨s.many + 1, t.close (x :: T) gb s.stack, gt ++ [gb], _, gv', rfl, R.out.1, R.out.2.1, R.out.2.2.1, R.out.2.2.2⟩
        · have hP := hV.out.tl.keep hT.out hD hr
          have hri : ¬ ((r : Int) = (s.many : Int) + 1) := by omega
          have hfs := hV.out.fs
          have hcm2 := hV.out.cm
          have hgm2 := hV.out.gm
          have R := Lib.hid (⟨hfs, hP, hcm2, by omega⟩ : _ ∧ _ ∧ _ ∧ gt.length + s.many ≤ gs.length + t.many)
          clear hfs hP hcm2 hgm2 hD
          go_wp2_with fail
          go_ret
          exact ⟨r, t, gt, sv, gv, rfl, R.out.1, R.out.2.1, R.out.2.2.1, R.out.2.2.2⟩
end Go.Proofs.Ytbklkhndjckckaa
