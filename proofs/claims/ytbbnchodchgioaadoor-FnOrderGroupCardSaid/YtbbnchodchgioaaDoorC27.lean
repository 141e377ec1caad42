/- Texts laid together. -/
import Derived.Test.YtbbnchodchgioaaDoorC26
import Derived.Test.YtbbnchodchgioaaDoorC01
import Derived.Test.YtbbnchodchgioaaDoorC13
import Derived.Test.YtbbnchodchgioaaDoorC25
import Derived.Test.YtbbnchodchgioaaDoorC29
import Derived.Test.YtbbnchodchgioaaDoorC11
import Derived.Test.YtbbnchodchgioaaDoorC18
import Derived.Test.YtbbnchodchgioaaDoorC30
import Derived.Deep.RegionWith
import Derived.IntWalk
/- The program's NodesOrder. -/
namespace Go.Proofs.YtbbnchodchgioaaDoor
open Go.RowKit
set_option linter.unusedVariables false

theorem soon_of {N : List Nd} (hv : nodB N = true) {i j : Nat} (hi : i < N.length) (hj : j < N.length) : Soon N (N.getD i nd0).id (N.getD j nd0).id ↔ soonK N i j := by
  unfold Soon soonK; rw [seqP_of hv (getD_mem hi), seqP_of hv (getD_mem hj)]
theorem FreeI.sc {N : List Nd} {T : Pid → Prop} {a b : Pid} (h : FreeI N T a) (hs : Sc (EI N) a b) (hT : Clo N T) : FreeI N T b := by
  obtain ⟨h1, h2, h3, h4⟩ := h
  refine ⟨sc_in hs h1, fun hb => h2 (hT b a hb hs.2), h3.on hs.1, fun c hc => ?_⟩
  rcases h4 c (hs.1.rp hc) with h | h
  · exact .inl h
  · exact .inr (hs.symm.trans h)
theorem GrpH.head {w : World} {gb : Nat} {N : List Nd} {U : Us} {i k : Nat} (hv : nodB N = true) (h : GrpH w gb N U i) (hi : i < N.length) (hk : k < N.length) (hs : Sc (EI N) (N.getD i nd0).id (N.getD k nd0).id) : k = i ∨ soonK N i k := by
  obtain ⟨mb, cap, Q, f, r, rd, h, e⟩ := h
  have hm := (h.gm.mem k).2 ((sc_iff hv hi hk).2 hs)
  obtain ⟨m, hmq, hme⟩ := List.getElem_of_mem hm
  have h0 : Q[0]'(by omega) = i := by rw [← e, List.getD_eq_getElem?_getD, List.getElem?_eq_getElem (by omega)]; rfl
  by_cases hm0 : m = 0
  · subst hm0; exact .inl (hme.symm.trans h0)
  · have := List.pairwise_iff_getElem.1 h.gm.srt 0 m (by omega) hmq (by omega)
    rw [h0, hme] at this; exact .inr this
theorem sfR_none {w : World} {N : List Nd} {U : Us} {gs : List Nat} {H : Nat → Nat} {T : Pid → Prop} (hG : GH w N U gs H) (hT : Clo N T) (h : ∀ j, j < gs.length → ¬ FreeI N T (N.getD (H j) nd0).id) : ∀ a, ¬ FreeI N T a := by
  intro a ha
  obtain ⟨i, hi, rfl⟩ := mem_idsN.1 ha.1
  obtain ⟨j, hj, hs⟩ := hG.cov i hi
  exact h j hj (ha.sc hs.symm hT)
theorem sfR_best {w : World} {N : List Nd} {U : Us} {gs : List Nat} {H : Nat → Nat} {T : Pid → Prop} (hv : nodB N = true) (hG : GH w N U gs H) (hT : Clo N T) {j : Nat} (hj : j < gs.length)
    (h : ∀ j', j' < gs.length → FreeI N T (N.getD (H j') nd0).id → H j' = H j ∨ soonK N (H j) (H j')) : ∀ b, FreeI N T b → b = (N.getD (H j) nd0).id ∨ Soon N (N.getD (H j) nd0).id b := by
  intro b hb
  obtain ⟨i, hi, rfl⟩ := mem_idsN.1 hb.1
  obtain ⟨j', hj', hs⟩ := hG.cov i hi
  obtain ⟨hl', hG'⟩ := hG.at_ j' hj'
  have hl := (hG.at_ j hj).1
  rcases hG'.head hv hl' hi hs with e | e <;> rcases h j' hj' (hb.sc hs.symm hT) with e' | e'
  · rw [e, e']; exact .inl rfl
  · rw [e]; exact .inr ((soon_of hv hl hl').2 e')
  · rw [e'] at e; exact .inr ((soon_of hv hl hi).2 e)
  · exact .inr ((soon_of hv hl hi).2 (e'.trans e))
/-- The ids of a group's nodes. -/
def memI (N : List Nd) (Q : List Nat) : List Pid := Q.map fun i => (N.getD i nd0).id
theorem GM.mem_memI {N : List Nd} {i : Nat} {Q : List Nat} {f r : Nat → Nat} {rd : Bool} (hv : nodB N = true) (hi : i < N.length) (h : GM N i Q f r rd) (b : Pid) : b ∈ memI N Q ↔ Sc (EI N) (N.getD i nd0).id b := by
  unfold memI
  rw [List.mem_map]
  constructor
  · rintro ⟨k, hk, rfl⟩
    have hs := (h.mem k).1 hk
    exact (sc_iff hv hi (rt_lt hs.1 hi)).1 hs
  · intro hs
    obtain ⟨j, hj, e, _⟩ := rt_en hv hs.1 i hi rfl
    subst e
    exact ⟨j, (h.mem j).2 ((sc_iff hv hi hj).2 hs), rfl⟩
theorem GM.srt_memI {N : List Nd} {i : Nat} {Q : List Nat} {f r : Nat → Nat} {rd : Bool} (hv : nodB N = true) (hi : i < N.length) (h : GM N i Q f r rd) : (memI N Q).Pairwise (Soon N) := by
  unfold memI
  rw [List.pairwise_map]
  refine List.Pairwise.imp_of_mem (fun {a b} ha hb hab => ?_) h.srt
  exact (soon_of hv (rt_lt ((h.mem a).1 ha).1 hi) (rt_lt ((h.mem b).1 hb).1 hi)).2 hab

/-- Groups are kept where their blocks are. -/
theorem GrpAt.kb {w w' : World} {gb : Nat} {N : List Nd} {U : Us} {i mb cap : Nat} {Q : List Nat} {f r : Nat → Nat} {rd : Bool} (h : GrpAt w gb N U i mb cap Q f r rd) (hk : ∀ b, Typ w b 58 ∨ Typ w b 32 → w'.heap[b]? = w.heap[b]?) : GrpAt w' gb N U i mb cap Q f r rd :=
  ⟨h.gb.same (hk _ (.inl h.gb.typ)), h.row.same (hk _ (.inr h.typ)), h.typ.same (hk _ (.inr h.typ)), h.cap, h.gm⟩
theorem GH.kb {w w' : World} {N : List Nd} {U : Us} {gs : List Nat} {H : Nat → Nat} (h : GH w N U gs H) (hk : ∀ b, Typ w b 58 ∨ Typ w b 32 → w'.heap[b]? = w.heap[b]?) : GH w' N U gs H :=
  ⟨fun j hj => ⟨(h.at_ j hj).1, by obtain ⟨_, mb, cap, Q, f, r, rd, hA, e⟩ := h.at_ j hj; exact ⟨mb, cap, Q, f, r, rd, hA.kb hk, e⟩⟩, h.cov⟩
theorem Set5.typ {w : World} {b : Nat} {f : Nat → Nat} (h : Set5 w b f) : Typ w b 56 := ⟨_, h⟩

/-- Where the order is. -/
structure OS (w0 wr : World) (N : List Nd) (U : Us) (gs : List Nat) (H : Nat → Nat) (gv : Value) (xb : Nat) (R : Nat → Nat) (A : List Pid) (sv : Value) : Prop where
  row : Row wr w0.heap.size sv A
  grow : wr.ownsRow w0.heap.size 59 1 gv gs.length (gs.map pv)
  gh : GH wr N U gs H
  rb : Set5 wr xb R
  xl : w0.heap.size ≤ xb
  bel : Below w0.heap.size w0 wr
section
variable {w0 wr w' : World} {N : List Nd} {U : Us} {gs : List Nat} {H : Nat → Nat} {gv : Value} {xb : Nat} {R : Nat → Nat} {A : List Pid} {sv : Value}
theorem OS.up (h : OS w0 wr N U gs H gv xb R A sv) (hb : Below wr.heap.size wr w') : OS w0 w' N U gs H gv xb R A sv :=
  ⟨h.row.up hb, row_same h.grow (fun k hk => hb.block k (ownb_typ h.grow hk).lt), h.gh.keep (Exv.of hb), (hb.block xb h.rb.lt).trans h.rb, h.xl, bstep h.bel hb⟩
theorem Row.typ {w : World} {B : Nat} {v : Value} {O : List Pid} (h : Row w B v O) {k : Nat} (hk : v.ownBlock = some k) : Typ w k 25 := ownb_typ h.1 hk
theorem OS.push (h : OS w0 wr N U gs H gv xb R A sv) {o : Obj} {v' : Value} {x y : Int}
    (hown : w'.ownsRow w0.heap.size 25 2 v' (A.length + 1) (flatP A ++ [.int .i64 x, .int .i64 y])) (hg : (wr.alloc o).grownBy w' (Value.ownBlock sv)) (hn : v' ≠ .slice none 0 0) :
    OS w0 w' N U gs H gv xb R (A ++ [(x, y)]) v' ∧ ∀ b, Typ wr b 58 ∨ Typ wr b 32 → w'.heap[b]? = wr.heap[b]? := by
  have hb0 : Below wr.heap.size wr (wr.alloc o) := (Below.refl _ _).alloc (Nat.le_refl _) o
  have hU := h.up hb0
  have hk : ∀ b t, Typ (wr.alloc o) b t → t ≠ 25 → w'.heap[b]? = (wr.alloc o).heap[b]? := fun b t ht hne => hg.block b ht.lt fun e => hne (ht.uniq (hU.row.typ e.symm))
  have hk2 : ∀ b, Typ (wr.alloc o) b 58 ∨ Typ (wr.alloc o) b 32 → w'.heap[b]? = (wr.alloc o).heap[b]? := fun b hh => hh.elim (fun ht => hk b _ ht (by decide)) (fun ht => hk b _ ht (by decide))
  refine ⟨⟨hU.row.put hown hn, row_same hU.grow (fun k hk' => hk k _ (ownb_typ hU.grow hk') (by decide)), hU.gh.kb hk2, (hk xb _ hU.rb.typ (by decide)).trans hU.rb, h.xl, ?_⟩, fun b hb => ?_⟩
  · exact hU.bel.trans (grown_below hU.row hg (by have := hU.bel.size; omega))
  · have hlt : b < wr.heap.size := hb.elim (fun ht => ht.lt) (fun ht => ht.lt)
    have e := hb0.block b hlt
    exact (hk2 b (hb.imp (fun ht => ht.same e) (fun ht => ht.same e))).trans e
theorem OS.fill (h : OS w0 wr N U gs H gv xb R A sv) (g : Nat → Nat) :
    OS w0 (((((wr.setCell ⟨xb, 0, none⟩ (.int .u64 (g 0))).setCell ⟨xb, 1, none⟩ (.int .u64 (g 1))).setCell ⟨xb, 2, none⟩ (.int .u64 (g 2))).setCell ⟨xb, 3, none⟩ (.int .u64 (g 3))).setCell ⟨xb, 4, none⟩ (.int .u64 (g 4))) N U gs H gv xb g A sv := by
  have ho : ∀ b, b ≠ xb → (((((wr.setCell ⟨xb, 0, none⟩ (.int .u64 (g 0))).setCell ⟨xb, 1, none⟩ (.int .u64 (g 1))).setCell ⟨xb, 2, none⟩ (.int .u64 (g 2))).setCell ⟨xb, 3, none⟩ (.int .u64 (g 3))).setCell ⟨xb, 4, none⟩ (.int .u64 (g 4))).heap[b]? = wr.heap[b]? := fun b hb => by
    rw [heap_setCell_other _ _ _ _ hb, heap_setCell_other _ _ _ _ hb, heap_setCell_other _ _ _ _ hb, heap_setCell_other _ _ _ _ hb, heap_setCell_other _ _ _ _ hb]
  have ht : ∀ b t, Typ wr b t → t ≠ 56 → b ≠ xb := fun b t h1 h2 e => h2 (by subst e; exact h1.uniq h.rb.typ)
  refine ⟨⟨row_same h.row.1 fun k hk => ho k (ht k _ (h.row.typ hk) (by decide)), h.row.2⟩, row_same h.grow (fun k hk => ho k (ht k _ (ownb_typ h.grow hk) (by decide))), h.gh.kb (fun b hb => ho b (hb.elim (fun x => ht b _ x (by decide)) (fun x => ht b _ x (by decide)))), h.rb.fill g, h.xl, ?_⟩
  exact ((((h.bel.setCell (p := ⟨xb, 0, none⟩) h.xl _).setCell (p := ⟨xb, 1, none⟩) h.xl _).setCell (p := ⟨xb, 2, none⟩) h.xl _).setCell (p := ⟨xb, 3, none⟩) h.xl _).setCell (p := ⟨xb, 4, none⟩) h.xl _
end
theorem memI_take {N : List Nd} {Q : List Nat} {m : Nat} (hm : m < Q.length) : memI N (Q.take (m + 1)) = memI N (Q.take m) ++ [(N.getD (Q.getD m 0) nd0).id] := by
  have e : Q.getD m 0 = Q[m] := by rw [List.getD_eq_getElem?_getD, List.getElem?_eq_getElem hm]; rfl
  rw [e]
  unfold memI
  rw [List.take_succ_eq_append_getElem hm, List.map_append]; rfl
theorem memI_len (N : List Nd) (Q : List Nat) : (memI N Q).length = Q.length := List.length_map _

def lenO : Value → Nat
  | .slice _ n _ => n
  | _ => 0
theorem one_cellId (w : World) (x y : Value) (t : TypeId) : ∀ j u, [x, y][j]? = some u → (w.alloc (.cells #[x, y] t)).cell? ((⟨w.heap.size, 0, none⟩ : Addr).add j) = some u := two_cells w t x y _ rfl

set_option maxRecDepth 100000 in
set_option maxHeartbeats 2000000 in
theorem sfree_no (ga : Option Addr) (gc : Nat) (x0 x1 x2 x3 x4 : Value) (w : World) :
    Calls Tryd.prog 54 #[.slice ga 0 gc, .agg #[x0, x1, x2, x3, x4]] w fun e w' => e = .returned (.pointer none) ∧ Below w.heap.size w w' := by
  go_enter Tryd.func54, Tryd.ntmps54
  go_wp2_with fail
  refine wp_loop_rounds 1 ?_
  rw [rounds_succ]
  go_wp2_with fail
  go_ret
  exact ⟨rfl, (Below.refl _ _).alloc (Nat.le_refl _) _⟩

set_option maxRecDepth 100000 in
set_option maxHeartbeats 4000000 in
theorem iorder_any (u : Value) (N : List Nd) (w : World) (h : Nds w u N) :
    Calls Tryd.prog 27 #[u] w (OnP N w) := by
  have D0 := (Below.refl w.heap.size w).alloc (Nat.le_refl _) (.cells #[] 25)
  have gr := groups_any u N _ (h.up D0 (Nat.le_refl _))
  have R0 : Row (w.alloc (.cells #[] 25)) w.heap.size (.slice (some ⟨w.heap.size, 0, none⟩) 0 0) [] := row_new w _ (Nat.le_refl _)
  have R0 := Lib.hid R0
  have D0 := Lib.hid D0
  clear h
  obtain ⟨i0, hi, hz0, hz1, hz2⟩ := info_parts infoP
  go_enter Tryd.func27, Tryd.ntmps27
  go_wp2_with fail
  refine gr.mono ?_
  rintro e w1 ⟨gs, gv, U, rfl, hrow, hgl, B, hno, hyes⟩
  have D1 := Lib.hid (bstep D0.out B)
  have R1 := Lib.hid (R0.out.up B)
  have hbase : w.heap.size ≤ (w.alloc (.cells #[] 25)).heap.size := by simp
  have hrow := Lib.hid (row_base hrow hbase)
  clear B gr D0 R0 hbase
  cases hv : nodB N with
  | false =>
    have hg0 := hno hv
    subst hg0
    obtain ⟨ga, gc, rfl⟩ := row_shape hrow.out
    have hv := Lib.hid hv
    have hbox := Lib.hid (heap_alloc_new w1 (.cells #[.int .u64 0, .int .u64 0, .int .u64 0, .int .u64 0, .int .u64 0] 56))
    have D2 := Lib.hid (D1.out.alloc D1.out.size (.cells #[.int .u64 0, .int .u64 0, .int .u64 0, .int .u64 0, .int .u64 0] 56))
    have R2 := Lib.hid (R1.out.up ((Below.refl _ _).alloc (Nat.le_refl _) (.cells #[.int .u64 0, .int .u64 0, .int .u64 0, .int .u64 0, .int .u64 0] 56)))
    clear hno hyes hrow R1
    simp only [List.length_nil]
    go_wp2_with fail
    refine (sfree_no ga gc _ _ _ _ _ _).mono ?_
    rintro e w2 ⟨rfl, B⟩
    have D3 := Lib.hid (bstep D2.out B)
    have R3 := Lib.hid (R2.out.up B)
    clear B D2 R2
    go_wp2_with fail
    refine wp_loop_rounds 1 ?_
    rw [rounds_succ]
    go_wp2_with fail
    go_ret
    obtain ⟨b, hb, hO⟩ := R3.out.own (by simp)
    exact ⟨b, _, [], hb, rfl, hO, ⟨fun _ => rfl, fun x => by rw [hv.out] at x; cases x⟩, by simp, D3.out⟩
  | true =>
    obtain ⟨H, hH⟩ := GH.of hv (hyes hv)
    have hO1 : Hid (OS w (w1.alloc (.cells #[.int .u64 0, .int .u64 0, .int .u64 0, .int .u64 0, .int .u64 0] 56)) N U gs H gv w1.heap.size (fun _ => 0) [] (.slice (some ⟨w.heap.size, 0, none⟩) 0 0)) := by
      have b := (Below.refl w1.heap.size w1).alloc (Nat.le_refl _) (.cells #[.int .u64 0, .int .u64 0, .int .u64 0, .int .u64 0, .int .u64 0] 56)
      exact Lib.hid ⟨R1.out.up b, row_same hrow.out (fun k hk => b.block k (ownb_typ hrow.out hk).lt), hH.keep (Exv.of b), heap_alloc_new w1 _, D1.out.size, bstep D1.out b⟩
    have hv := Lib.hid hv
    have hxl := D1.out.size
    have hgl := Lib.hid hgl
    obtain ⟨s0, s1, s2, s3, s4⟩ := hO1.out.rb.five
    have sl := hO1.out.rb.lt
    have sf := sfree_any w.heap.size gv gs N U H (fun _ => 0) (fun x => x ∈ ([] : List Pid)) _ hv.out hO1.out.grow hgl.out hO1.out.gh (Bits.zero.ext fun x => ⟨fun hh => hh.elim, fun hh => nomatch hh⟩) (Pre.start N).1
    unfold setV at sf
    clear hno hyes hrow R1 hH D1
    go_wp2_with fail
    refine sf.mono ?_
    rintro e w2 ⟨gp, rfl, hS, B⟩
    have hS := Lib.hid hS
    have hO2 := Lib.hid (hO1.out.up B)
    clear B hO1 sf s0 s1 s2 s3 s4 sl
    go_wp2_with fail
    obtain ⟨xb, hxb⟩ : ∃ b, b = w1.heap.size := ⟨_, rfl⟩
    rw [← hxb] at hO2 ⊢
    clear hxb hxl
    go_loopw [3, 6] (fun vo vg wr => ∃ (A : List Pid) (R : Nat → Nat), Hid (OS w wr N U gs H gv xb R A vo) ∧ Hid (Bits R (fun x => x ∈ A)) ∧ Hid (Pre N A) ∧ Hid (SfR N (fun x => x ∈ A) gs H gs.length vg)) (fun vo _ _ => 12 - lenO vo)
    case atStart => exact ⟨[], _, hO2, Lib.hid (Bits.zero.ext fun x => ⟨fun hh => hh.elim, fun hh => nomatch hh⟩), Lib.hid (Pre.start N), hS⟩
    case round =>
      clear hO2 hS
      obtain ⟨A, R, hO, hB, hP, hS⟩ := hrel
      have hA12 : A.length ≤ 12 := Nat.le_trans hP.out.len (nod_of hv.out).1
      rcases hS.out with ⟨rfl, hno⟩ | ⟨j, hj, rfl, hjf, hjm⟩
      · have hfin := Lib.hid (hP.out.stop (sfR_none hO.out.gh hP.out.1 hno))
        obtain ⟨b, hb, hOw⟩ := hO.out.row.own (by omega)
        have hOw := Lib.hid hOw
        go_wp2_with fail
        go_ret
        exact ⟨b, _, A, hb, rfl, hOw.out, ⟨fun x => (by rw [hv.out] at x; cases x), fun _ => hfin.out⟩, hA12, hO.out.bel⟩
      · have hbest := sfR_best hv.out hO.out.gh hP.out.1 hj hjm
        obtain ⟨hHl, mb, cap, Q, f, r, rd, hGA, hQ0⟩ := hO.out.gh.at_ j hj
        have hMm := hGA.gm.mem_memI hv.out hHl
        have hMs := hGA.gm.srt_memI hv.out hHl
        have hP2 := Lib.hid (hP.out.next hjf hbest hMm hMs)
        have hA2 := hP2.out.len
        rw [List.length_append, memI_len] at hA2
        have hAQ : A.length + Q.length ≤ 12 := Nat.le_trans hA2 (nod_of hv.out).1
        have hpos := hGA.pos
        have hcapQ := hGA.cap
        have hbf := Lib.hid hGA.gm.ids
        have hMm := Lib.hid hMm
        obtain ⟨gb, hgb⟩ : ∃ b, Hid (gs.getD j 0 = b) := ⟨_, Lib.hid rfl⟩
        unfold pv
        rw [hgb.out] at hGA ⊢
        have hc0 := hGA.gb.c0
        have hgbl := hGA.gb.lt
        have hGA := Lib.hid hGA
        obtain ⟨n, hn⟩ : ∃ n, Hid (Q.length = n) := ⟨_, Lib.hid rfl⟩
        rw [hn.out] at hc0 hAQ hpos hcapQ
        clear hbest hMs hjf hQ0 hA2
        have hjm := Lib.hid hjm
        have hS := Lib.hid hS
        obtain ⟨oa, oc, rfl⟩ := row_shape hO.out.row.1
        go_wp2_with fail
        have hPN := hv
        have hmlen := hO.out.row.1.1
        have hGb := Lib.hid (⟨_, rfl⟩ : ∃ b, b = gb)
        go_loopw [3, 25] (fun vo i wr => ∃ m : Nat, m ≤ n ∧ i = .int .i64 m ∧ Hid (OS w wr N U gs H gv xb R (A ++ memI N (Q.take m)) vo) ∧ Hid (GrpAt wr gb N U (H j) mb cap Q f r rd)) (fun _ i _ => n - (intOf i).toNat)
        case atStart => exact ⟨0, Nat.zero_le _, rfl, Lib.hid (by simpa [memI] using hO.out), hGA⟩
        case round =>
          clear hO hGA
          obtain ⟨m, hm, rfl, hO, hGA⟩ := hrel
          obtain ⟨oa, oc, rfl⟩ := row_shape hO.out.row.1
          by_cases hlt : m < n
          · have hmQ : m < Q.length := by rw [hn.out]; exact hlt
            obtain ⟨c1, c2, c3, c4⟩ := hGA.out.row.cell hmQ
            have hml := hGA.out.row.lt
            have htk := memI_take (N := N) hmQ
            obtain ⟨d, hd⟩ : ∃ d, Hid ((N.getD (Q.getD m 0) nd0).id = d) := ⟨_, Lib.hid rfl⟩
            rw [hd.out] at c1 c2 htk
            obtain ⟨p, q⟩ := d
            dsimp only at c1 c2
            have htk := Lib.hid htk
            obtain ⟨sq, hsq⟩ : ∃ x, (N.getD (Q.getD m 0) nd0).seq = x := ⟨_, rfl⟩
            obtain ⟨⟨ua, un, uc⟩, hu⟩ : ∃ x, U (Q.getD m 0) = x := ⟨_, rfl⟩
            rw [hsq] at c3
            rw [hu] at c4
            dsimp only at c4
            clear hsq hu
            have hO2 := Lib.hid (hO.out.up ((Below.refl wr.heap.size wr).alloc (Nat.le_refl _) (.cells #[.int .i64 p, .int .i64 q, .int .i64 sq, .slice ua un uc] 32)))
            have hG2 := Lib.hid (hGA.out.kb (w' := wr.alloc (.cells #[.int .i64 p, .int .i64 q, .int .i64 sq, .slice ua un uc] 32)) (fun b hb => (Below.heap_alloc _ _ _ (hb.elim (fun x => x.lt) (fun x => x.lt)))))
            obtain ⟨A2, hA2⟩ : ∃ L, Hid (A ++ memI N (Q.take m) = L) := ⟨_, Lib.hid rfl⟩
            have hA2l : A2.length ≤ 12 := by rw [← hA2.out, List.length_append, memI_len, List.length_take]; omega
            have hA3 := Lib.hid (show A ++ memI N (Q.take (m + 1)) = A2 ++ [(p, q)] by rw [htk.out, ← List.append_assoc, hA2.out])
            rw [hA2.out] at hO2 ⊢
            have hwl : w.heap.size ≤ wr.heap.size := hO.out.bel.size
            clear hO hGA htk
            go_wp2_with (at_builtin; refine wpList_append_own _ rfl _ _ 28 rfl w.heap.size 25 i0 (.agg #[.int .i64 0, .int .i64 0]) 2 16 Tryd.underlying28 hi hz0 hz1 hz2 rfl (by decide) _ _ _ rfl (hO2.out.row.1.alloc _) ⟨wr.heap.size + 1, 0, none⟩ 1 1 [.int .i64 p, .int .i64 q] rfl rfl ?c1 ?c2 ?c3 ?c4 ?c5 ?_)
            case c1 => exact two_cells _ _ _ _ _ (by simp)
            case c2 => intro u hu; simp at hu; rcases hu with rfl | rfl <;> rfl
            case c3 => unfold maxLen; omega
            case c4 => omega
            case c5 => simp; omega
            intro v' w4 hown' hgrow hnil
            obtain ⟨hO4, hk4⟩ := hO2.out.push hown' hgrow (fun e => hnil e)
            have hG4 := Lib.hid (hG2.out.kb hk4)
            rw [← hA3.out] at hO4
            have hO4 := Lib.hid hO4
            clear hown' hgrow hnil hk4 hO2 hG2
            go_wp2_with fail
            refine ⟨⟨m + 1, by omega, by go_num, hO4, hG4⟩, ?_⟩
            simp [intOf]; omega
          · obtain rfl : m = n := by omega
            have hQt : Q.take m = Q := by rw [← hn.out]; exact List.take_length
            rw [hQt] at hO ⊢
            obtain ⟨s0, s1, s2, s3, s4⟩ := hO.out.rb.five
            have sl := hO.out.rb.lt
            obtain ⟨f1, f2, f3, f4, f5⟩ := hGA.out.gb.fs
            have gl := hGA.out.gb.lt
            have sj := fun W => join_any (nrm R) (nrm f) W hB.out.nrm_lt hbf.out.nrm_lt
            obtain ⟨jq, hjq⟩ : ∃ j, Hid (joinF (nrm R) (nrm f) = j) := ⟨_, Lib.hid rfl⟩
            rw [hjq.out, nrm_set, nrm_set] at sj
            unfold setV at sj
            have hJ : Hid (Bits jq (fun x => x ∈ A ++ memI N Q)) := Lib.hid (by rw [← hjq.out]; exact (hB.out.nrm.join hbf.out.nrm).ext fun x => by rw [List.mem_append, hMm.out])
            have hlen : (A ++ memI N Q).length = A.length + m := by rw [List.length_append, memI_len, hn.out]
            obtain ⟨A2, hA2⟩ : ∃ L, Hid (A ++ memI N Q = L) := ⟨_, Lib.hid rfl⟩
            rw [hA2.out] at hO hJ hP2 hlen ⊢
            replace hlen := Lib.hid hlen
            go_wp2_with fail
            go_region_with (go_at_call 55; (with_reducible refine (sj _).mono ?_); rintro e w9 ⟨rfl, hb⟩; have O9 := Lib.hid ((hO.out.up (Below.drew (Below.refl _ _))).up hb); obtain ⟨s0, s1, s2, s3, s4⟩ := O9.out.rb.five; have sl := O9.out.rb.lt; have q0 := O9.out.rb.free 0; have q1 := O9.out.rb.free 1; have q2 := O9.out.rb.free 2; have q3 := O9.out.rb.free 3; have q4 := O9.out.rb.free 4; clear hb hO hGA f1 f2 f3 f4 f5 gl)
            all_goals
              obtain ⟨W10, hW10⟩ : ∃ W, ((((w9.setCell ⟨xb, 0, none⟩ (.int .u64 (jq 0))).setCell ⟨xb, 1, none⟩ (.int .u64 (jq 1))).setCell ⟨xb, 2, none⟩ (.int .u64 (jq 2))).setCell ⟨xb, 3, none⟩ (.int .u64 (jq 3))).setCell ⟨xb, 4, none⟩ (.int .u64 (jq 4)) = W := ⟨_, rfl⟩
              have O10 := O9.out.fill jq
              rw [hW10] at O10 ⊢
              obtain ⟨s0, s1, s2, s3, s4⟩ := O10.rb.five
              have sl := O10.rb.lt
              have sf := sfree_any w.heap.size gv gs N U H jq (fun x => x ∈ A2) _ hv.out O10.grow hgl.out O10.gh hJ.out hP2.out.1
              unfold setV at sf
              have O10 := Lib.hid O10
              clear hW10 O9 q0 q1 q2 q3 q4 sj
              go_wp2_with fail
              refine sf.mono ?_
              rintro e w11 ⟨gp2, rfl, hS2, hb⟩
              have hS2 := Lib.hid hS2
              have O11 := Lib.hid (O10.out.up hb)
              clear hb O10 sf s0 s1 s2 s3 s4 sl
              go_wp2_with fail
              refine ⟨⟨A2, jq, O11, hJ, hP2, hS2⟩, ?_⟩
              have := hlen.out
              simp only [lenO]
              omega
end Go.Proofs.YtbbnchodchgioaaDoor

/- The walk of FnOrderDeps. -/
namespace Go.Proofs.YtbbnchodchgioaaDoor
open Go.RowKit
set_option linter.unusedVariables false

set_option maxRecDepth 100000 in
set_option maxHeartbeats 8000000 in
theorem fnOrderDeps_walk (a : Option Addr) (len cap : Nat) (w : World) (hc : CodeIn w a len cap) (hcap : cap ≤ maxLen) (hT : TabIn w) :
    Calls Tryd.prog 10 #[.slice a len cap] w fun e w' => e = .returned (.bool true) ∧ Below w.heap.size w w' := by
  have hm : cap ≤ 9223372036854775807 := by simpa [maxLen] using hcap
  have hlc := hc.1
  by_cases hl : 1048576 < len
  · clear hcap hc hT
    go_enter Tryd.func10, Tryd.ntmps10
    go_wp2_with fail
    go_ret
    exact ⟨rfl, Below.refl _ _⟩
  · have hc1 := Lib.hid hc
    have hcap1 := Lib.hid hcap
    replace hT := Lib.hid hT
    clear hc hcap
    go_enter Tryd.func10, Tryd.ntmps10
    go_wp2_with fail
    refine (dnord_any a len cap w hc1.out hcap1.out).mono ?_
    rintro e w0 ⟨u, N, rfl, hN, hNp, hNl, B⟩
    have hN := Lib.hid hN
    have D := Lib.hid B
    replace hT := Lib.hid (hT.out.up B (Nat.le_refl _))
    clear hc1 hcap1 B
    go_wp2_with fail
    refine (iorder_any u N _ hN.out).mono ?_
    rintro e w1 ⟨b1, v1, S, hb1, rfl, hO, hS, hSl, B⟩
    have hO := Lib.hid hO
    replace hT := Lib.hid (hT.out.up B (Nat.le_refl _))
    replace hN := Lib.hid (hN.out.up B (Nat.le_refl _))
    replace D := Lib.hid (bstep D.out B)
    clear B
    go_wp2_with fail
    refine (sorder_any u N _ hN.out).mono ?_
    rintro e w2 ⟨b2, v2, S2, hb2, rfl, hP, hS2, _, B⟩
    rw [hS2.det hS] at hP
    have hP := Lib.hid hP
    have hS := Lib.hid hS
    replace hO := Lib.hid (hO.out.up B hO.out.lt)
    replace hT := Lib.hid (hT.out.up B (Nat.le_refl _))
    replace hN := Lib.hid (hN.out.up B (Nat.le_refl _))
    replace D := Lib.hid (bstep D.out B)
    clear B hS2
    go_wp2_with fail
    refine (same_any _ _ S _ hO.out.read hP.out.read).mono ?_
    rintro e w3 ⟨rfl, B⟩
    replace hO := Lib.hid (hO.out.up B hO.out.lt)
    replace hT := Lib.hid (hT.out.up B (Nat.le_refl _))
    replace hN := Lib.hid (hN.out.up B (Nat.le_refl _))
    replace D := Lib.hid (bstep D.out B)
    clear B hP
    obtain ⟨oc, rfl, hoc⟩ := hO.out.shape
    obtain ⟨ns, hns⟩ : ∃ n, Hid (S.length = n) := ⟨_, Lib.hid rfl⟩
    have hsc := Lib.hid hO.out.cell
    have hol := hO.out.lt
    rw [hns.out] at hoc hO hSl ⊢
    go_wp2_with fail
    go_loopw [6] (fun iv wr => ∃ i : Nat, i ≤ ns ∧ iv = .int .i64 i ∧ Hid (Below w3.heap.size w3 wr)) (fun iv _ => ns - (intOf iv).toNat)
    case atStart => exact ⟨0, Nat.zero_le _, rfl, Lib.hid (Below.refl _ _)⟩
    case round =>
      obtain ⟨i, hi, rfl, hE⟩ := hrel
      by_cases hlti : i < ns
      · have hiS : i < S.length := by rw [hns.out]; exact hlti
        obtain ⟨c0, c1⟩ := hsc.out i hiS
        obtain ⟨d, hd⟩ : ∃ d, Hid (S.getD i nop = d) := ⟨_, Lib.hid rfl⟩
        rw [hd.out] at c0 c1
        obtain ⟨p, q⟩ := d
        dsimp only at c0 c1
        have s0 := (hE.out.cell (p := ⟨b1, i * 2, none⟩) hol).trans c0
        have s1 := (hE.out.cell (p := ⟨b1, i * 2 + 1, none⟩) hol).trans c1
        have hol2 := Nat.lt_of_lt_of_le hol hE.out.size
        have iv := ireach_any u N p q wr (hN.out.up hE.out (Nat.le_refl _)) (hT.out.up hE.out (Nat.le_refl _))
        go_wp2_with fail
        refine iv.mono ?_
        rintro e w4 ⟨b4, v4, hb4, rfl, hX, B⟩
        have hE4 := Lib.hid (bstep hE.out B)
        have hxl := hX.lt
        have hXl := reachR_len N (p, q)
        have hX := Lib.hid hX
        obtain ⟨X, hXr⟩ : ∃ X, Hid (reachR N (p, q) = X) := ⟨_, Lib.hid rfl⟩
        rw [hXr.out] at hX hXl
        replace s0 := cell_later B s0
        replace s1 := cell_later B s1
        replace hol2 := Nat.lt_of_lt_of_le hol2 B.size
        clear B iv hE
        have ig := igroup_any u N p q w4 (hN.out.up hE4.out (Nat.le_refl _)) (hT.out.up hE4.out (Nat.le_refl _))
        go_wp2_with fail
        refine ig.mono ?_
        rintro e w5 ⟨b5, v5, hb5, rfl, hG, B⟩
        have hE5 := Lib.hid (bstep hE4.out B)
        replace hX := Lib.hid (hX.out.up B hX.out.lt)
        have hG := Lib.hid hG
        obtain ⟨G, hGr⟩ : ∃ X, Hid (groupR N (p, q) = X) := ⟨_, Lib.hid rfl⟩
        rw [hGr.out] at hG
        clear B ig hE4 hxl s0 s1 hol2
        have hxl := hX.out.lt
        have hxs := Lib.hid hX.out.cell
        have hX2 := hX.out
        obtain ⟨xc, rfl, hxc⟩ := hX2.shape
        clear hX2
        obtain ⟨nx, hnx⟩ : ∃ n, Hid (X.length = n) := ⟨_, Lib.hid rfl⟩
        rw [hnx.out] at hxc hXl ⊢
        replace hO := Lib.hid (hO.out.up hE5.out hO.out.lt)
        clear hX
        go_wp2_with fail
        go_loopw [9] (fun kv wr => ∃ k : Nat, k ≤ nx ∧ kv = .int .i64 k ∧ Hid (Below w5.heap.size w5 wr)) (fun kv _ => nx - (intOf kv).toNat)
        case atStart => exact ⟨0, Nat.zero_le _, rfl, Lib.hid (Below.refl _ _)⟩
        case round =>
          obtain ⟨k, hk, rfl, hE⟩ := hrel
          by_cases hltk : k < nx
          · have hkX : k < X.length := by rw [hnx.out]; exact hltk
            obtain ⟨y0, y1⟩ := hxs.out k hkX
            have hin : X.getD k nop ∈ reachR N (S.getD i nop) := by rw [hd.out, hXr.out]; exact getD_inL hkX
            have hof := fun hg z hz => ord_first hS.out hiS hin hg (z := z) hz
            generalize X.getD k nop = d at y0 y1 hof
            obtain ⟨p2, q2⟩ := d
            dsimp only at y0 y1
            have y0 := (hE.out.cell (p := ⟨b4, k * 2, none⟩) hxl).trans y0
            have y1 := (hE.out.cell (p := ⟨b4, k * 2 + 1, none⟩) hxl).trans y1
            have hxl2 := Nat.lt_of_lt_of_le hxl hE.out.size
            rw [hd.out, hGr.out] at hof
            have hof := Lib.hid hof
            have lh := lhas_any _ G p2 q2 wr (hG.out.read.up hE.out (Nat.le_refl _))
            clear hin
            cases hz : hasP G (p2, q2)
            · rw [hz] at lh
              replace hof := Lib.hid (hof.out hz)
              clear hz
              go_wp2_with fail
              refine lh.mono ?_
              rintro e w6 ⟨rfl, B⟩
              have E2 := Lib.hid (bstep hE.out B)
              replace y0 := cell_later B y0
              replace y1 := cell_later B y1
              have hxl2 := Nat.lt_of_lt_of_le hxl2 B.size
              have lp := lpl_any _ S p2 q2 w6 (hO.out.read.up E2.out (Nat.le_refl _))
              clear B lh
              go_wp2_with fail
              refine lp.mono ?_
              rintro e w7 ⟨⟨z, rfl, hz⟩, B⟩
              have hzi : ¬ ((i : Int) < z) := by have := hof.out z hz; omega
              have E3 := Lib.hid (bstep E2.out B)
              clear B lp hz y0 y1
              go_wp2_with fail
              refine ⟨⟨k + 1, by omega, by go_num, E3⟩, ?_⟩
              simp [intOf]; omega
            · rw [hz] at lh
              clear hz hof
              go_wp2_with fail
              refine lh.mono ?_
              rintro e w6 ⟨rfl, B⟩
              have E2 := Lib.hid (bstep hE.out B)
              clear B lh
              go_wp2_with fail
              refine ⟨⟨k + 1, by omega, by go_num, E2⟩, ?_⟩
              simp [intOf]; omega
          · have hgk : ¬ ((k : Int) < nx) := by omega
            have E2 := Lib.hid (bstep hE5.out hE.out)
            go_wp2_with fail
            refine ⟨⟨i + 1, by omega, by go_num, E2⟩, ?_⟩
            simp [intOf]; omega
      · have hgi : ¬ ((i : Int) < ns) := by omega
        have D2 := Lib.hid (bstep D.out hE.out)
        go_wp2_with fail
        go_ret
        exact ⟨rfl, D2.out⟩
end Go.Proofs.YtbbnchodchgioaaDoor

/- The walk of FnOrderGroup. -/
namespace Go.Proofs.YtbbnchodchgioaaDoor
open Go.RowKit
set_option linter.unusedVariables false

set_option maxRecDepth 100000 in
set_option maxHeartbeats 8000000 in
theorem fnOrderGroup_walk (a : Option Addr) (len cap : Nat) (w : World) (hc : CodeIn w a len cap) (hcap : cap ≤ maxLen) (hT : TabIn w) :
    Calls Tryd.prog 11 #[.slice a len cap] w fun e w' => e = .returned (.bool true) ∧ Below w.heap.size w w' := by
  have hm : cap ≤ 9223372036854775807 := by simpa [maxLen] using hcap
  have hlc := hc.1
  by_cases hl : 1048576 < len
  · clear hcap hc hT
    go_enter Tryd.func11, Tryd.ntmps11
    go_wp2_with fail
    go_ret
    exact ⟨rfl, Below.refl _ _⟩
  · have hc1 := Lib.hid hc
    have hcap1 := Lib.hid hcap
    replace hT := Lib.hid hT
    clear hc hcap
    go_enter Tryd.func11, Tryd.ntmps11
    go_wp2_with fail
    refine (dnord_any a len cap w hc1.out hcap1.out).mono ?_
    rintro e w0 ⟨u, N, rfl, hN, hNp, hNl, B⟩
    have hN := Lib.hid hN
    have D := Lib.hid B
    replace hT := Lib.hid (hT.out.up B (Nat.le_refl _))
    clear hc1 hcap1 B
    go_wp2_with fail
    refine (iorder_any u N _ hN.out).mono ?_
    rintro e w1 ⟨b1, v1, S, hb1, rfl, hO, hS, hSl, B⟩
    have hO := Lib.hid hO
    replace hT := Lib.hid (hT.out.up B (Nat.le_refl _))
    replace hN := Lib.hid (hN.out.up B (Nat.le_refl _))
    replace D := Lib.hid (bstep D.out B)
    clear B
    go_wp2_with fail
    refine (sorder_any u N _ hN.out).mono ?_
    rintro e w2 ⟨b2, v2, S2, hb2, rfl, hP, hS2, _, B⟩
    rw [hS2.det hS] at hP
    have hP := Lib.hid hP
    have hS := Lib.hid hS
    replace hO := Lib.hid (hO.out.up B hO.out.lt)
    replace hT := Lib.hid (hT.out.up B (Nat.le_refl _))
    replace hN := Lib.hid (hN.out.up B (Nat.le_refl _))
    replace D := Lib.hid (bstep D.out B)
    clear B hS2
    go_wp2_with fail
    refine (same_any _ _ S _ hO.out.read hP.out.read).mono ?_
    rintro e w3 ⟨rfl, B⟩
    replace hO := Lib.hid (hO.out.up B hO.out.lt)
    replace hT := Lib.hid (hT.out.up B (Nat.le_refl _))
    replace hN := Lib.hid (hN.out.up B (Nat.le_refl _))
    replace D := Lib.hid (bstep D.out B)
    clear B hP
    obtain ⟨oc, rfl, hoc⟩ := hO.out.shape
    obtain ⟨ns, hns⟩ : ∃ n, Hid (S.length = n) := ⟨_, Lib.hid rfl⟩
    have hsc := Lib.hid hO.out.cell
    have hol := hO.out.lt
    rw [hns.out] at hoc hO hSl ⊢
    have hN' := hN.out
    obtain ⟨ga, cp, rfl, h1, h2, h3⟩ := hN'
    rcases h3 with h3 | ⟨g, off, rfl, h4, h5⟩
    · omega
    · obtain ⟨U, hA⟩ := NdAt.of h4 h5
      have hA := Lib.hid hA
      obtain ⟨nn, hnn⟩ : ∃ n, Hid (N.length = n) := ⟨_, Lib.hid rfl⟩
      rw [hnn.out] at hNp hNl h1 h2 hN ⊢
      clear h4 h5
      go_wp2_with fail
      go_loopw [6] (fun iv wr => ∃ i : Nat, 1 ≤ i ∧ (i ≤ ns ∨ i = 1) ∧ iv = .int .i64 i ∧ Hid (Below w3.heap.size w3 wr)) (fun iv _ => ns - (intOf iv).toNat)
      case atStart => exact ⟨1, Nat.le_refl _, .inr rfl, rfl, Lib.hid (Below.refl _ _)⟩
      case round =>
        obtain ⟨i, hi1, hi, rfl, hE⟩ := hrel
        by_cases hlti : i < ns
        · have hiS : i < S.length := by rw [hns.out]; exact hlti
          obtain ⟨j, hj⟩ : ∃ j, Hid (i = j + 1) := ⟨i - 1, Lib.hid (by omega)⟩
          have hjS : j < S.length := by have := hj.out; omega
          have k0 : (0 : Int) ≤ (i : Int) - 1 := by omega
          have k1 : (i : Int) - 1 < (ns : Int) := by omega
          have k2 : (1 : Int) ≤ (i : Int) := by omega
          have kw : IntKind.i64.wrap ((i : Int) - 1) = (i : Int) - 1 := IntWalk.i64_in _ (by omega)
          have k6 : ((i : Int) - 1).toNat = j := by have := hj.out; omega
          clear hi
          obtain ⟨c0, c1⟩ := hsc.out i hiS
          obtain ⟨d, hd⟩ : ∃ d, Hid (S.getD i nop = d) := ⟨_, Lib.hid rfl⟩
          rw [hd.out] at c0 c1
          obtain ⟨p, q⟩ := d
          dsimp only at c0 c1
          have s0 := (hE.out.cell (p := ⟨b1, i * 2, none⟩) hol).trans c0
          have s1 := (hE.out.cell (p := ⟨b1, i * 2 + 1, none⟩) hol).trans c1
          clear c0 c1
          obtain ⟨c0, c1⟩ := hsc.out j hjS
          obtain ⟨d', hd'⟩ : ∃ d, Hid (S.getD j nop = d) := ⟨_, Lib.hid rfl⟩
          rw [hd'.out] at c0 c1
          obtain ⟨p', q'⟩ := d'
          dsimp only at c0 c1
          have t0 := (hE.out.cell (p := ⟨b1, j * 2, none⟩) hol).trans c0
          have t1 := (hE.out.cell (p := ⟨b1, j * 2 + 1, none⟩) hol).trans c1
          have hol2 := Nat.lt_of_lt_of_le hol hE.out.size
          clear c0 c1
          have ig := igroup_any _ N p q wr (hN.out.up hE.out (Nat.le_refl _)) (hT.out.up hE.out (Nat.le_refl _))
          go_wp2_with fail
          refine ig.mono ?_
          rintro e w4 ⟨b4, v4, hb4, rfl, hG, B⟩
          have hE4 := Lib.hid (bstep hE.out B)
          have hG := Lib.hid hG
          obtain ⟨G, hGr⟩ : ∃ X, Hid (groupR N (p, q) = X) := ⟨_, Lib.hid rfl⟩
          rw [hGr.out] at hG
          replace s0 := cell_later B s0
          replace s1 := cell_later B s1
          replace t0 := cell_later B t0
          replace t1 := cell_later B t1
          replace hol2 := Nat.lt_of_lt_of_le hol2 B.size
          clear B ig hE
          have lh := lhas_any _ G p' q' w4 hG.out.read
          cases hz : hasP G (p', q')
          · have hz := Lib.hid hz
            rw [hz.out] at lh
            go_wp2_with fail
            refine lh.mono ?_
            rintro e w5 ⟨rfl, B⟩
            replace hE4 := Lib.hid (bstep hE4.out B)
            replace hG := Lib.hid (hG.out.up B hG.out.lt)
            have hol3 := Nat.lt_of_lt_of_le hol2 B.size
            have hO3 := hE4
            clear B lh s0 s1 t0 t1 hol2
            go_wp2_with fail
            go_loopw [11] (fun kv wr => ∃ k : Nat, k ≤ i ∧ kv = .int .i64 k ∧ Hid (Below w5.heap.size w5 wr)) (fun kv _ => i - (intOf kv).toNat)
            case atStart => exact ⟨0, Nat.zero_le _, rfl, Lib.hid (Below.refl _ _)⟩
            case round =>
              obtain ⟨k, hk, rfl, hE⟩ := hrel
              by_cases hltk : k < i
              · have hkS : k < S.length := by omega
                have hap := ord_apart hS.out (i := j) (by have := hj.out; omega) (by rw [← hj.out, hd.out, hd'.out, hGr.out]; exact hz.out) (k := k) (by have := hj.out; omega)
                obtain ⟨c0, c1⟩ := hsc.out k hkS
                rw [← hj.out, hd.out, hGr.out] at hap
                generalize S.getD k nop = d at c0 c1 hap
                obtain ⟨p2, q2⟩ := d
                dsimp only at c0 c1
                have y0 := (hO3.out.cell (p := ⟨b1, k * 2, none⟩) hol).trans c0
                have y1 := (hO3.out.cell (p := ⟨b1, k * 2 + 1, none⟩) hol).trans c1
                replace y0 := (hE.out.cell (p := ⟨b1, k * 2, none⟩) hol3).trans y0
                replace y1 := (hE.out.cell (p := ⟨b1, k * 2 + 1, none⟩) hol3).trans y1
                have hol2 := Nat.lt_of_lt_of_le hol3 hE.out.size
                have lh := lhas_any _ G p2 q2 wr (hG.out.read.up hE.out (Nat.le_refl _))
                rw [hap] at lh
                have hkn : k < ns := by omega
                clear hap c0 c1
                go_wp2_with fail
                refine lh.mono ?_
                rintro e w6 ⟨rfl, B⟩
                have E3 := Lib.hid (bstep hE.out B)
                clear B lh y0 y1
                go_wp2_with fail
                refine ⟨⟨k + 1, by omega, by go_num, E3⟩, ?_⟩
                simp [intOf]; omega
              · obtain rfl : k = i := by omega
                have E2 := Lib.hid (bstep hE4.out hE.out)
                go_wp2_with fail
                refine ⟨⟨k + 1, by omega, by omega, by go_num, E2⟩, ?_⟩
                simp [intOf]; omega
          · have hv := ord_valid hS.out hiS
            have hso := ord_rank hS.out (i := j) (by have := hj.out; omega) (by rw [← hj.out, hd.out, hd'.out, hGr.out]; exact hz)
            have hi' := ord_in hS.out hiS
            have hj' := ord_in hS.out hjS
            rw [← hj.out, hd.out, hd'.out] at hso
            rw [hd.out] at hi'
            rw [hd'.out] at hj'
            have okd : ∀ {a : Pid}, a ∈ idsN N → idB a.1 a.2 = true := fun {a} ha => by
              obtain ⟨m, hm, rfl⟩ := mem_idsN.1 ha
              have := (nod_of hv).2.1 _ (getD_mem hm)
              simp only [ndB, Bool.and_eq_true] at this
              exact this.1
            have o1 := okd hi'
            have o2 := okd hj'
            obtain ⟨A, hr'⟩ : ∃ A, Hid (rkK N (p', q') nn = A) := ⟨_, Lib.hid rfl⟩
            obtain ⟨B', hr⟩ : ∃ A, Hid (rkK N (p, q) nn = A) := ⟨_, Lib.hid rfl⟩
            have hs : A < B' ∨ A = B' ∧ befB p' q' p q = true := by
              rw [← hr.out, ← hr'.out, ← hnn.out, rkK_all hv hi', rkK_all hv hj']
              rcases hso with hs | ⟨hs1, hs2⟩
              · exact .inl hs
              · exact .inr ⟨hs1, by unfold befB; rw [o1, o2]; exact hs2⟩
            replace hs := Lib.hid hs
            clear o1 o2 okd hi' hj' hv hso
            rw [hz] at lh
            clear hz
            go_wp2_with fail
            refine lh.mono ?_
            rintro e w5 ⟨rfl, B⟩
            replace hE4 := Lib.hid (bstep hE4.out B)
            have hol3 := Nat.lt_of_lt_of_le hol2 B.size
            replace s0 := Lib.hid (cell_later B s0)
            replace s1 := Lib.hid (cell_later B s1)
            replace t0 := Lib.hid (cell_later B t0)
            replace t1 := Lib.hid (cell_later B t1)
            clear B lh hol2 hG
            go_wp2_with fail
            go_loopw [8, 9, 10] (fun av bv kv wr => ∃ k : Nat, k ≤ nn ∧ kv = .int .i64 k ∧ av = .int .i64 (rkK N (p', q') k) ∧ bv = .int .i64 (rkK N (p, q) k) ∧ Hid (Below w5.heap.size w5 wr)) (fun _ _ kv _ => nn - (intOf kv).toNat)
            case atStart => exact ⟨0, Nat.zero_le _, rfl, rfl, rfl, Lib.hid (Below.refl _ _)⟩
            case round =>
              obtain ⟨k, hk, rfl, rfl, rfl, hE⟩ := hrel
              by_cases hltk : k < nn
              · have hkN : k < N.length := by rw [hnn.out]; exact hltk
                have hA2 := (hA.out.up hE4.out (Nat.le_refl _)).up hE.out (Nat.le_refl _)
                obtain ⟨x0, x1, x2, _⟩ := hA2.cell k hkN
                have hgl := hA2.lt
                have hr1 : rkK N (p', q') (k + 1) = if (N.getD k nd0).id = (p', q') then (N.getD k nd0).seq else rkK N (p', q') k := rfl
                have hr2 : rkK N (p, q) (k + 1) = if (N.getD k nd0).id = (p, q) then (N.getD k nd0).seq else rkK N (p, q) k := rfl
                generalize (N.getD k nd0).id = d2 at x0 x1 hr1 hr2
                generalize (N.getD k nd0).seq = s2 at x2 hr1 hr2
                obtain ⟨p2, q2⟩ := d2
                dsimp only at x0 x1 x2
                have t0 := (hE.out.cell (p := ⟨b1, j * 2, none⟩) hol3).trans t0.out
                have t1 := (hE.out.cell (p := ⟨b1, j * 2 + 1, none⟩) hol3).trans t1.out
                have s0 := (hE.out.cell (p := ⟨b1, i * 2, none⟩) hol3).trans s0.out
                have s1 := (hE.out.cell (p := ⟨b1, i * 2 + 1, none⟩) hol3).trans s1.out
                have hol2 := Nat.lt_of_lt_of_le hol3 hE.out.size
                have e1 := fun W => eq_id p2 q2 p' q' W
                have e2 := fun W => eq_id p2 q2 p q W
                generalize rkK N (p', q') k = A at hr1 ⊢
                generalize rkK N (p, q) k = B at hr2 ⊢
                obtain ⟨z1, hz1⟩ : ∃ z, decide ((p2, q2) = (p', q')) = z := ⟨_, rfl⟩
                obtain ⟨z2, hz2⟩ : ∃ z, decide ((p2, q2) = (p, q)) = z := ⟨_, rfl⟩
                rw [hz1] at e1
                rw [hz2] at e2
                replace hr1 : rkK N (p', q') (k + 1) = if z1 = true then s2 else A := by rw [hr1, ← hz1]; simp
                replace hr2 : rkK N (p, q) (k + 1) = if z2 = true then s2 else B := by rw [hr2, ← hz2]; simp
                clear hz1 hz2 hA2
                have hr1 := Lib.hid hr1
                have hr2 := Lib.hid hr2
                cases z1
                · cases z2
                  · go_upto_region 18 with fail
                    go_quiet (fail)
                    generalize hwd : wr.drewN nq = wd
                    have Bd : Below wr.heap.size wr wd := by rw [← hwd]; exact bdrewN (Below.refl _ _) _
                    replace x0 := cell_later Bd x0
                    replace x1 := cell_later Bd x1
                    replace x2 := cell_later Bd x2
                    replace t0 := cell_later Bd t0
                    replace t1 := cell_later Bd t1
                    replace s0 := cell_later Bd s0
                    replace s1 := cell_later Bd s1
                    replace hgl := Nat.lt_of_lt_of_le hgl Bd.size
                    replace hol2 := Nat.lt_of_lt_of_le hol2 Bd.size
                    clear hwd
                    go_upto_region 20 with fail
                    go_quiet (fail)
                    generalize hwe : wd.drewN nq = we
                    have Be : Below wd.heap.size wd we := by rw [← hwe]; exact bdrewN (Below.refl _ _) _
                    clear hwe
                    have E5 := Lib.hid (bstep hE.out (bstep Bd Be))
                    go_wp2_with fail
                    refine ⟨⟨k + 1, by omega, by go_num, by rw [hr1.out]; first | rfl | simp, by rw [hr2.out]; first | rfl | simp, E5⟩, ?_⟩
                    simp [intOf]; omega
                  · go_upto_region 18 with fail
                    go_quiet (fail)
                    generalize hwd : wr.drewN nq = wd
                    have Bd : Below wr.heap.size wr wd := by rw [← hwd]; exact bdrewN (Below.refl _ _) _
                    replace x0 := cell_later Bd x0
                    replace x1 := cell_later Bd x1
                    replace x2 := cell_later Bd x2
                    replace t0 := cell_later Bd t0
                    replace t1 := cell_later Bd t1
                    replace s0 := cell_later Bd s0
                    replace s1 := cell_later Bd s1
                    replace hgl := Nat.lt_of_lt_of_le hgl Bd.size
                    replace hol2 := Nat.lt_of_lt_of_le hol2 Bd.size
                    clear hwd
                    go_upto_region 20 with fail
                    go_quiet (fail)
                    generalize hwe : wd.drewN nq = we
                    have Be : Below wd.heap.size wd we := by rw [← hwe]; exact bdrewN (Below.refl _ _) _
                    clear hwe
                    replace x2 := cell_later Be x2
                    replace hgl := Nat.lt_of_lt_of_le hgl Be.size
                    have E5 := Lib.hid (bstep hE.out (bstep Bd Be))
                    go_wp2_with fail
                    refine ⟨⟨k + 1, by omega, by go_num, by rw [hr1.out]; first | rfl | simp, by rw [hr2.out]; first | rfl | simp, E5⟩, ?_⟩
                    simp [intOf]; omega
                · cases z2
                  · go_upto_region 18 with fail
                    go_quiet (fail)
                    generalize hwd : wr.drewN nq = wd
                    have Bd : Below wr.heap.size wr wd := by rw [← hwd]; exact bdrewN (Below.refl _ _) _
                    replace x0 := cell_later Bd x0
                    replace x1 := cell_later Bd x1
                    replace x2 := cell_later Bd x2
                    replace t0 := cell_later Bd t0
                    replace t1 := cell_later Bd t1
                    replace s0 := cell_later Bd s0
                    replace s1 := cell_later Bd s1
                    replace hgl := Nat.lt_of_lt_of_le hgl Bd.size
                    replace hol2 := Nat.lt_of_lt_of_le hol2 Bd.size
                    clear hwd
                    go_upto_region 20 with fail
                    go_quiet (fail)
                    generalize hwe : wd.drewN nq = we
                    have Be : Below wd.heap.size wd we := by rw [← hwe]; exact bdrewN (Below.refl _ _) _
                    clear hwe
                    have E5 := Lib.hid (bstep hE.out (bstep Bd Be))
                    go_wp2_with fail
                    refine ⟨⟨k + 1, by omega, by go_num, by rw [hr1.out]; first | rfl | simp, by rw [hr2.out]; first | rfl | simp, E5⟩, ?_⟩
                    simp [intOf]; omega
                  · go_upto_region 18 with fail
                    go_quiet (fail)
                    generalize hwd : wr.drewN nq = wd
                    have Bd : Below wr.heap.size wr wd := by rw [← hwd]; exact bdrewN (Below.refl _ _) _
                    replace x0 := cell_later Bd x0
                    replace x1 := cell_later Bd x1
                    replace x2 := cell_later Bd x2
                    replace t0 := cell_later Bd t0
                    replace t1 := cell_later Bd t1
                    replace s0 := cell_later Bd s0
                    replace s1 := cell_later Bd s1
                    replace hgl := Nat.lt_of_lt_of_le hgl Bd.size
                    replace hol2 := Nat.lt_of_lt_of_le hol2 Bd.size
                    clear hwd
                    go_upto_region 20 with fail
                    go_quiet (fail)
                    generalize hwe : wd.drewN nq = we
                    have Be : Below wd.heap.size wd we := by rw [← hwe]; exact bdrewN (Below.refl _ _) _
                    clear hwe
                    replace x2 := cell_later Be x2
                    replace hgl := Nat.lt_of_lt_of_le hgl Be.size
                    have E5 := Lib.hid (bstep hE.out (bstep Bd Be))
                    go_wp2_with fail
                    refine ⟨⟨k + 1, by omega, by go_num, by rw [hr1.out]; first | rfl | simp, by rw [hr2.out]; first | rfl | simp, E5⟩, ?_⟩
                    simp [intOf]; omega
              · obtain rfl : nn = k := by omega
                have hE6 := hE
                rw [hr.out, hr'.out]
                clear hE
                have t0 := (hE6.out.cell (p := ⟨b1, j * 2, none⟩) hol3).trans t0.out
                have t1 := (hE6.out.cell (p := ⟨b1, j * 2 + 1, none⟩) hol3).trans t1.out
                have s0 := (hE6.out.cell (p := ⟨b1, i * 2, none⟩) hol3).trans s0.out
                have s1 := (hE6.out.cell (p := ⟨b1, i * 2 + 1, none⟩) hol3).trans s1.out
                have hol2 := Nat.lt_of_lt_of_le hol3 hE6.out.size
                have ib := fun W => ibef_any p' q' p q W
                have hs9 := hs.out
                clear hs
                rcases hs9 with hs | ⟨hs1, hs2⟩
                · have hs1 : ¬ (B' < A) := by omega
                  have hs2 : ¬ (A = B') := by omega
                  have hs3 : (A == B') = false := by simpa using hs2
                  clear hs
                  go_upto_region 22 with fail
                  refine wp_region_held_drew (S := fun w' => w'.cell? ⟨b1, j * 2, none⟩ = some (.int .i64 p') ∧ w'.cell? ⟨b1, j * 2 + 1, none⟩ = some (.int .i64 q') ∧ w'.cell? ⟨b1, i * 2, none⟩ = some (.int .i64 p) ∧ w'.cell? ⟨b1, i * 2 + 1, none⟩ = some (.int .i64 q) ∧ Below wr.heap.size wr w') (by kernel_rfl) ⟨t0, t1, s0, s1, Below.drew (Below.refl _ _)⟩ (fun hHeld => ?_)
                  refine wpAnyH_take (i := 0) (oi := ⟨some 84, _, _, _, _, _⟩) (v := ?_) rfl (by kernel_rfl) (by kernel_rfl) (by kernel_rfl) (fun _ _ _ h => h) (Or.inl ⟨by rfl, ?_⟩) (by assumption) ?_
                  rotate_left 1
                  · intro w hSw; (try dsimp only at hSw); go_simp; try (with_reducible rfl)
                  try simp only [Act.put, List.setIfInBounds_toArray, List.set_cons_zero, List.set_cons_succ]
                  refine wpAnyH_take (i := 1) (oi := ⟨some 85, _, _, _, _, _⟩) (v := ?_) rfl (by kernel_rfl) (by kernel_rfl) (by kernel_rfl) (fun _ _ _ h => h) (Or.inl ⟨by rfl, ?_⟩) (by assumption) ?_
                  rotate_left 1
                  · intro w hSw; (try dsimp only at hSw); go_simp; try (with_reducible rfl)
                  try simp only [Act.put, List.setIfInBounds_toArray, List.set_cons_zero, List.set_cons_succ]
                  refine wpAnyH_take (i := 2) (oi := ⟨some 86, _, _, _, _, _⟩) (v := ?_) rfl (by kernel_rfl) (by kernel_rfl) (by kernel_rfl) (fun _ _ _ h => h) (Or.inl ⟨by rfl, ?_⟩) (by assumption) ?_
                  rotate_left 1
                  · intro w hSw; (try dsimp only at hSw); go_simp; try (with_reducible rfl)
                  try simp only [Act.put, List.setIfInBounds_toArray, List.set_cons_zero, List.set_cons_succ]
                  refine wpAnyH_take (i := 3) (oi := ⟨some 87, _, _, _, _, _⟩) (v := ?_) rfl (by kernel_rfl) (by kernel_rfl) (by kernel_rfl) (fun _ _ _ h => h) (Or.inl ⟨by rfl, ?_⟩) (by assumption) ?_
                  rotate_left 1
                  · intro w hSw; (try dsimp only at hSw); go_simp; try (with_reducible rfl)
                  try simp only [Act.put, List.setIfInBounds_toArray, List.set_cons_zero, List.set_cons_succ]
                  refine wpAnyH_take (i := 4) (oi := ⟨some 88, _, _, _, _, _⟩) (v := ?_) rfl (by kernel_rfl) (by kernel_rfl) (by kernel_rfl) (fun _ _ _ h => h) (Or.inl ⟨by rfl, ?_⟩) (by assumption) ?_
                  rotate_left 1
                  · intro w hSw; (try dsimp only at hSw); go_simp; try (with_reducible rfl)
                  try simp only [Act.put, List.setIfInBounds_toArray, List.set_cons_zero, List.set_cons_succ]
                  refine wpAnyH_take (i := 5) (oi := ⟨some 89, _, _, _, _, _⟩) (v := ?_) rfl (by kernel_rfl) (by kernel_rfl) (by kernel_rfl) (fun _ _ _ h => h) (Or.inl ⟨by rfl, ?_⟩) (by assumption) ?_
                  rotate_left 1
                  · intro w hSw; (try dsimp only at hSw); go_simp; try (with_reducible rfl)
                  try simp only [Act.put, List.setIfInBounds_toArray, List.set_cons_zero, List.set_cons_succ]
                  refine wpAnyH_take (i := 6) (oi := ⟨some 90, _, _, _, _, _⟩) (v := ?_) rfl (by kernel_rfl) (by kernel_rfl) (by kernel_rfl) (fun _ _ _ h => h) (Or.inl ⟨by rfl, ?_⟩) (by assumption) ?_
                  rotate_left 1
                  · intro w hSw; (try dsimp only at hSw); go_simp; try (with_reducible rfl)
                  try simp only [Act.put, List.setIfInBounds_toArray, List.set_cons_zero, List.set_cons_succ]
                  refine wpAnyH_take (i := 7) (oi := ⟨some 91, _, _, _, _, _⟩) (v := ?_) rfl (by kernel_rfl) (by kernel_rfl) (by kernel_rfl) (fun _ _ _ h => h) (Or.inl ⟨by rfl, ?_⟩) (by assumption) ?_
                  rotate_left 1
                  · intro w hSw; (try dsimp only at hSw); go_simp; try (with_reducible rfl)
                  try simp only [Act.put, List.setIfInBounds_toArray, List.set_cons_zero, List.set_cons_succ]
                  refine wpAnyH_take (i := 8) (oi := ⟨some 92, _, _, _, _, _⟩) (v := undef) rfl (by kernel_rfl) (by kernel_rfl) (by kernel_rfl) (fun _ _ _ h => h) (Or.inr ⟨by rfl, rfl⟩) (by assumption) ?_
                  try simp only [Act.put, List.setIfInBounds_toArray, List.set_cons_zero, List.set_cons_succ]
                  refine wpAnyH_take (i := 9) (oi := ⟨some 93, _, _, _, _, _⟩) (v := undef) rfl (by kernel_rfl) (by kernel_rfl) (by kernel_rfl) (fun _ _ _ h => h) (Or.inr ⟨by rfl, rfl⟩) (by assumption) ?_
                  try simp only [Act.put, List.setIfInBounds_toArray, List.set_cons_zero, List.set_cons_succ]
                  refine wpAnyH_take (i := 10) (oi := ⟨some 94, _, _, _, _, _⟩) (v := undef) rfl (by kernel_rfl) (by kernel_rfl) (by kernel_rfl) (fun _ _ _ h => h) (Or.inr ⟨by rfl, rfl⟩) (by assumption) ?_
                  try simp only [Act.put, List.setIfInBounds_toArray, List.set_cons_zero, List.set_cons_succ]
                  refine wpAnyH_take (i := 11) (oi := ⟨some 95, _, _, _, _, _⟩) (v := undef) rfl (by kernel_rfl) (by kernel_rfl) (by kernel_rfl) (fun _ _ _ h => h) (Or.inr ⟨by rfl, rfl⟩) (by assumption) ?_
                  try simp only [Act.put, List.setIfInBounds_toArray, List.set_cons_zero, List.set_cons_succ]
                  refine wpAnyH_take (i := 12) (oi := ⟨some 96, _, _, _, _, _⟩) (v := undef) rfl (by kernel_rfl) (by kernel_rfl) (by kernel_rfl) (fun _ _ _ h => h) (Or.inr ⟨by rfl, rfl⟩) (by assumption) ?_
                  try simp only [Act.put, List.setIfInBounds_toArray, List.set_cons_zero, List.set_cons_succ]
                  refine wpAnyH_take (i := 13) (oi := ⟨some 97, _, _, _, _, _⟩) (v := undef) rfl (by kernel_rfl) (by kernel_rfl) (by kernel_rfl) (fun _ _ _ h => h) (Or.inr ⟨by rfl, rfl⟩) (by assumption) ?_
                  try simp only [Act.put, List.setIfInBounds_toArray, List.set_cons_zero, List.set_cons_succ]
                  refine wpAnyH_take (i := 14) (oi := ⟨some 98, _, _, _, _, _⟩) (v := undef) rfl (by kernel_rfl) (by kernel_rfl) (by kernel_rfl) (fun _ _ _ h => h) (Or.inr ⟨by rfl, rfl⟩) (by assumption) ?_
                  try simp only [Act.put, List.setIfInBounds_toArray, List.set_cons_zero, List.set_cons_succ]
                  refine wpAnyH_take (i := 15) (oi := ⟨some 99, _, _, _, _, _⟩) (v := undef) rfl (by kernel_rfl) (by kernel_rfl) (by kernel_rfl) (fun _ _ _ h => h) (Or.inr ⟨by rfl, rfl⟩) (by assumption) ?_
                  try simp only [Act.put, List.setIfInBounds_toArray, List.set_cons_zero, List.set_cons_succ]
                  refine wpAnyH_take (i := 16) (oi := ⟨some 100, _, _, _, _, _⟩) (v := undef) rfl (by kernel_rfl) (by kernel_rfl) (by kernel_rfl) (fun _ _ _ h => h) (Or.inr ⟨by rfl, rfl⟩) (by assumption) ?_
                  try simp only [Act.put, List.setIfInBounds_toArray, List.set_cons_zero, List.set_cons_succ]
                  refine wpAnyH_take (i := 17) (oi := ⟨some 101, _, _, _, _, _⟩) (v := undef) rfl (by kernel_rfl) (by kernel_rfl) (by kernel_rfl) (fun _ _ _ h => h) (Or.inr ⟨by rfl, rfl⟩) (by assumption) ?_
                  try simp only [Act.put, List.setIfInBounds_toArray, List.set_cons_zero, List.set_cons_succ]
                  refine wpAnyH_take (i := 18) (oi := ⟨some 102, _, _, _, _, _⟩) (v := undef) rfl (by kernel_rfl) (by kernel_rfl) (by kernel_rfl) (fun _ _ _ h => h) (Or.inr ⟨by rfl, rfl⟩) (by assumption) ?_
                  try simp only [Act.put, List.setIfInBounds_toArray, List.set_cons_zero, List.set_cons_succ]
                  refine wpAnyH_take (i := 19) (oi := ⟨some 103, _, _, _, _, _⟩) (v := ?_) rfl (by kernel_rfl) (by kernel_rfl) (by kernel_rfl) (fun _ _ _ h => h) (Or.inl ⟨by rfl, ?_⟩) (by assumption) ?_
                  rotate_left 1
                  · intro w hSw; (try dsimp only at hSw); go_simp; try (with_reducible rfl)
                  try simp only [Act.put, List.setIfInBounds_toArray, List.set_cons_zero, List.set_cons_succ]
                  refine wpAnyH_take (i := 20) (oi := ⟨some 104, _, _, _, _, _⟩) (v := ?_) rfl (by kernel_rfl) (by kernel_rfl) (by kernel_rfl) (fun _ _ _ h => h) (Or.inl ⟨by rfl, ?_⟩) (by assumption) ?_
                  rotate_left 1
                  · intro w hSw; (try dsimp only at hSw); go_simp; try (with_reducible rfl)
                  try simp only [Act.put, List.setIfInBounds_toArray, List.set_cons_zero, List.set_cons_succ]
                  refine wpAnyH_done (by kernel_rfl) ?_ _
                  try simp only [Act.put, List.setIfInBounds_toArray, List.set_cons_zero, List.set_cons_succ]
                  have E2 := Lib.hid (bstep hE4.out (bstep hE6.out hHeld.2.2.2.2))
                  clear hHeld
                  go_wp2_with fail
                  refine ⟨⟨i + 1, by omega, by omega, by go_num, E2⟩, ?_⟩
                  simp [intOf]; omega
                · subst hs1
                  rw [hs2] at ib
                  clear hs2
                  go_upto_region 22 with fail
                  refine wp_region_held_drew (S := fun w' => w'.cell? ⟨b1, j * 2, none⟩ = some (.int .i64 p') ∧ w'.cell? ⟨b1, j * 2 + 1, none⟩ = some (.int .i64 q') ∧ w'.cell? ⟨b1, i * 2, none⟩ = some (.int .i64 p) ∧ w'.cell? ⟨b1, i * 2 + 1, none⟩ = some (.int .i64 q) ∧ Below wr.heap.size wr w') (by kernel_rfl) ⟨t0, t1, s0, s1, Below.drew (Below.refl _ _)⟩ (fun hHeld => ?_)
                  refine wpAnyH_take (i := 0) (oi := ⟨some 84, _, _, _, _, _⟩) (v := ?_) rfl (by kernel_rfl) (by kernel_rfl) (by kernel_rfl) (fun _ _ _ h => h) (Or.inl ⟨by rfl, ?_⟩) (by assumption) ?_
                  rotate_left 1
                  · intro w hSw; (try dsimp only at hSw); go_simp; try (with_reducible rfl)
                  try simp only [Act.put, List.setIfInBounds_toArray, List.set_cons_zero, List.set_cons_succ]
                  refine wpAnyH_take (i := 1) (oi := ⟨some 85, _, _, _, _, _⟩) (v := ?_) rfl (by kernel_rfl) (by kernel_rfl) (by kernel_rfl) (fun _ _ _ h => h) (Or.inl ⟨by rfl, ?_⟩) (by assumption) ?_
                  rotate_left 1
                  · intro w hSw; (try dsimp only at hSw); go_simp; try (with_reducible rfl)
                  try simp only [Act.put, List.setIfInBounds_toArray, List.set_cons_zero, List.set_cons_succ]
                  refine wpAnyH_take (i := 2) (oi := ⟨some 86, _, _, _, _, _⟩) (v := ?_) rfl (by kernel_rfl) (by kernel_rfl) (by kernel_rfl) (fun _ _ _ h => h) (Or.inl ⟨by rfl, ?_⟩) (by assumption) ?_
                  rotate_left 1
                  · intro w hSw; (try dsimp only at hSw); go_simp; try (with_reducible rfl)
                  try simp only [Act.put, List.setIfInBounds_toArray, List.set_cons_zero, List.set_cons_succ]
                  refine wpAnyH_take (i := 3) (oi := ⟨some 87, _, _, _, _, _⟩) (v := ?_) rfl (by kernel_rfl) (by kernel_rfl) (by kernel_rfl) (fun _ _ _ h => h) (Or.inl ⟨by rfl, ?_⟩) (by assumption) ?_
                  rotate_left 1
                  · intro w hSw; (try dsimp only at hSw); go_simp; try (with_reducible rfl)
                  try simp only [Act.put, List.setIfInBounds_toArray, List.set_cons_zero, List.set_cons_succ]
                  refine wpAnyH_take (i := 4) (oi := ⟨some 88, _, _, _, _, _⟩) (v := ?_) rfl (by kernel_rfl) (by kernel_rfl) (by kernel_rfl) (fun _ _ _ h => h) (Or.inl ⟨by rfl, ?_⟩) (by assumption) ?_
                  rotate_left 1
                  · intro w hSw; (try dsimp only at hSw); go_simp; try (with_reducible rfl)
                  try simp only [Act.put, List.setIfInBounds_toArray, List.set_cons_zero, List.set_cons_succ]
                  refine wpAnyH_take (i := 5) (oi := ⟨some 89, _, _, _, _, _⟩) (v := ?_) rfl (by kernel_rfl) (by kernel_rfl) (by kernel_rfl) (fun _ _ _ h => h) (Or.inl ⟨by rfl, ?_⟩) (by assumption) ?_
                  rotate_left 1
                  · intro w hSw; (try dsimp only at hSw); go_simp; try (with_reducible rfl)
                  try simp only [Act.put, List.setIfInBounds_toArray, List.set_cons_zero, List.set_cons_succ]
                  refine wpAnyH_take (i := 6) (oi := ⟨some 90, _, _, _, _, _⟩) (v := ?_) rfl (by kernel_rfl) (by kernel_rfl) (by kernel_rfl) (fun _ _ _ h => h) (Or.inl ⟨by rfl, ?_⟩) (by assumption) ?_
                  rotate_left 1
                  · intro w hSw; (try dsimp only at hSw); go_simp; try (with_reducible rfl)
                  try simp only [Act.put, List.setIfInBounds_toArray, List.set_cons_zero, List.set_cons_succ]
                  refine wpAnyH_take (i := 7) (oi := ⟨some 91, _, _, _, _, _⟩) (v := ?_) rfl (by kernel_rfl) (by kernel_rfl) (by kernel_rfl) (fun _ _ _ h => h) (Or.inl ⟨by rfl, ?_⟩) (by assumption) ?_
                  rotate_left 1
                  · intro w hSw; (try dsimp only at hSw); go_simp; try (with_reducible rfl)
                  try simp only [Act.put, List.setIfInBounds_toArray, List.set_cons_zero, List.set_cons_succ]
                  refine wpAnyH_take (i := 8) (oi := ⟨some 92, _, _, _, _, _⟩) (v := ?_) rfl (by kernel_rfl) (by kernel_rfl) (by kernel_rfl) (fun _ _ _ h => h) (Or.inl ⟨by rfl, ?_⟩) (by assumption) ?_
                  rotate_left 1
                  · intro w hSw; (try dsimp only at hSw); go_simp; try (with_reducible rfl)
                  try simp only [Act.put, List.setIfInBounds_toArray, List.set_cons_zero, List.set_cons_succ]
                  refine wpAnyH_take (i := 9) (oi := ⟨some 93, _, _, _, _, _⟩) (v := ?_) rfl (by kernel_rfl) (by kernel_rfl) (by kernel_rfl) (fun _ _ _ h => h) (Or.inl ⟨by rfl, ?_⟩) (by assumption) ?_
                  rotate_left 1
                  · intro w hSw; (try dsimp only at hSw); go_simp; try (with_reducible rfl)
                  try simp only [Act.put, List.setIfInBounds_toArray, List.set_cons_zero, List.set_cons_succ]
                  refine wpAnyH_take (i := 10) (oi := ⟨some 94, _, _, _, _, _⟩) (v := ?_) rfl (by kernel_rfl) (by kernel_rfl) (by kernel_rfl) (fun _ _ _ h => h) (Or.inl ⟨by rfl, ?_⟩) (by assumption) ?_
                  rotate_left 1
                  · intro w hSw; (try dsimp only at hSw); go_simp; try (with_reducible rfl)
                  try simp only [Act.put, List.setIfInBounds_toArray, List.set_cons_zero, List.set_cons_succ]
                  refine wpAnyH_take (i := 11) (oi := ⟨some 95, _, _, _, _, _⟩) (v := ?_) rfl (by kernel_rfl) (by kernel_rfl) (by kernel_rfl) (fun _ _ _ h => h) (Or.inl ⟨by rfl, ?_⟩) (by assumption) ?_
                  rotate_left 1
                  · intro w hSw; (try dsimp only at hSw); go_simp; try (with_reducible rfl)
                  try simp only [Act.put, List.setIfInBounds_toArray, List.set_cons_zero, List.set_cons_succ]
                  refine wpAnyH_take (i := 12) (oi := ⟨some 96, _, _, _, _, _⟩) (v := ?_) rfl (by kernel_rfl) (by kernel_rfl) (by kernel_rfl) (fun _ _ _ h => h) (Or.inl ⟨by rfl, ?_⟩) (by assumption) ?_
                  rotate_left 1
                  · intro w hSw; (try dsimp only at hSw); go_simp; try (with_reducible rfl)
                  try simp only [Act.put, List.setIfInBounds_toArray, List.set_cons_zero, List.set_cons_succ]
                  refine wpAnyH_take (i := 13) (oi := ⟨some 97, _, _, _, _, _⟩) (v := ?_) rfl (by kernel_rfl) (by kernel_rfl) (by kernel_rfl) (fun _ _ _ h => h) (Or.inl ⟨by rfl, ?_⟩) (by assumption) ?_
                  rotate_left 1
                  · intro w hSw; (try dsimp only at hSw); go_simp; try (with_reducible rfl)
                  try simp only [Act.put, List.setIfInBounds_toArray, List.set_cons_zero, List.set_cons_succ]
                  refine wpAnyH_take (i := 14) (oi := ⟨some 98, _, _, _, _, _⟩) (v := ?_) rfl (by kernel_rfl) (by kernel_rfl) (by kernel_rfl) (fun _ _ _ h => h) (Or.inl ⟨by rfl, ?_⟩) (by assumption) ?_
                  rotate_left 1
                  · intro w hSw; (try dsimp only at hSw); go_simp; try (with_reducible rfl)
                  try simp only [Act.put, List.setIfInBounds_toArray, List.set_cons_zero, List.set_cons_succ]
                  refine wpAnyH_take (i := 15) (oi := ⟨some 99, _, _, _, _, _⟩) (v := ?_) rfl (by kernel_rfl) (by kernel_rfl) (by kernel_rfl) (fun _ _ _ h => h) (Or.inl ⟨by rfl, ?_⟩) (by assumption) ?_
                  rotate_left 1
                  · intro w hSw; (try dsimp only at hSw); go_simp; try (with_reducible rfl)
                  try simp only [Act.put, List.setIfInBounds_toArray, List.set_cons_zero, List.set_cons_succ]
                  refine wpAnyH_take (i := 16) (oi := ⟨some 100, _, _, _, _, _⟩) (v := ?_) rfl (by kernel_rfl) (by kernel_rfl) (by kernel_rfl) (fun _ _ _ h => h) (Or.inl ⟨by rfl, ?_⟩) (by assumption) ?_
                  rotate_left 1
                  · intro w hSw; (try dsimp only at hSw); go_simp; try (with_reducible rfl)
                  try simp only [Act.put, List.setIfInBounds_toArray, List.set_cons_zero, List.set_cons_succ]
                  refine wpAnyH_ready (rs := [17]) (by kernel_rfl) (by simp) ?_
                  refine AllReadyH.cons (o := ⟨some 101, _, _, _, _, _⟩) rfl (fun K hK => ?_) AllReadyH.nil
                  go_simp
                  with_reducible refine (ib _).mono ?_
                  rintro e wq1 ⟨rfl, hb⟩
                  go_wp2_with fail
                  refine hK.out _ _ ?_ (fun hHeld2 => ?_)
                  · exact ⟨cell_later hb hHeld.1, cell_later hb hHeld.2.1, cell_later hb hHeld.2.2.1, cell_later hb hHeld.2.2.2.1, hHeld.2.2.2.2.trans (hb.mono hHeld.2.2.2.2.size)⟩
                  clear hK K hHeld hb
                  have hHeld := hHeld2
                  clear hHeld2
                  try simp only [Act.put, List.setIfInBounds_toArray, List.set_cons_zero, List.set_cons_succ]
                  refine wpAnyH_take (i := 18) (oi := ⟨some 102, _, _, _, _, _⟩) (v := ?_) rfl (by kernel_rfl) (by kernel_rfl) (by kernel_rfl) (fun _ _ _ h => h) (Or.inl ⟨by rfl, ?_⟩) (by assumption) ?_
                  rotate_left 1
                  · intro w hSw; (try dsimp only at hSw); go_simp; try (with_reducible rfl)
                  try simp only [Act.put, List.setIfInBounds_toArray, List.set_cons_zero, List.set_cons_succ]
                  refine wpAnyH_take (i := 19) (oi := ⟨some 103, _, _, _, _, _⟩) (v := ?_) rfl (by kernel_rfl) (by kernel_rfl) (by kernel_rfl) (fun _ _ _ h => h) (Or.inl ⟨by rfl, ?_⟩) (by assumption) ?_
                  rotate_left 1
                  · intro w hSw; (try dsimp only at hSw); go_simp; try (with_reducible rfl)
                  try simp only [Act.put, List.setIfInBounds_toArray, List.set_cons_zero, List.set_cons_succ]
                  refine wpAnyH_take (i := 20) (oi := ⟨some 104, _, _, _, _, _⟩) (v := ?_) rfl (by kernel_rfl) (by kernel_rfl) (by kernel_rfl) (fun _ _ _ h => h) (Or.inl ⟨by rfl, ?_⟩) (by assumption) ?_
                  rotate_left 1
                  · intro w hSw; (try dsimp only at hSw); go_simp; try (with_reducible rfl)
                  try simp only [Act.put, List.setIfInBounds_toArray, List.set_cons_zero, List.set_cons_succ]
                  refine wpAnyH_done (by kernel_rfl) ?_ _
                  try simp only [Act.put, List.setIfInBounds_toArray, List.set_cons_zero, List.set_cons_succ]
                  have E2 := Lib.hid (bstep hE4.out (bstep hE6.out hHeld.2.2.2.2))
                  clear hHeld
                  go_wp2_with fail
                  refine ⟨⟨i + 1, by omega, by omega, by go_num, E2⟩, ?_⟩
                  simp [intOf]; omega
        · have hgi : ¬ ((i : Int) < ns) := by omega
          have D2 := Lib.hid (bstep D.out hE.out)
          go_wp2_with fail
          go_ret
          exact ⟨rfl, D2.out⟩
end Go.Proofs.YtbbnchodchgioaaDoor
