/- Texts laid together. -/
import Derived.Test.YtbbnchodchgioaaDoorC28
import Derived.Test.YtbbnchodchgioaaDoorC13
/- The model's NodesOrder. -/
namespace Go.Proofs.YtbbnchodchgioaaDoor
open Go.RowKit
set_option linter.unusedVariables false

/-- What the model calls free: ready, and all behind it is done or in its group. -/
def FrA (N : List Nd) (A : List Pid) (a : Pid) : Prop := RdI N a ∧ ∀ b, Rp (EI N) a b → b ∈ A ∨ Sc (EI N) a b
theorem frA_iff {N : List Nd} {A : List Pid} {a : Pid} : FreeI N (fun b => b ∈ A) a ↔ a ∈ idsN N ∧ ¬ a ∈ A ∧ FrA N A a := Iff.rfl
theorem first_none {N : List Nd} {A : List Pid} (h : FirstA N (selP N (FrA N A)) A none) : ∀ a, ¬ FreeI N (fun b => b ∈ A) a := fun a ha => ha.2.1 (h a (mem_selP.2 ⟨ha.1, ha.2.2⟩))
theorem first_some {N : List Nd} {A : List Pid} {a : Pid} (h : FirstA N (selP N (FrA N A)) A (some a)) : FreeI N (fun b => b ∈ A) a ∧ ∀ b, FreeI N (fun b => b ∈ A) b → b = a ∨ Soon N a b := by
  obtain ⟨h1, h2, h3⟩ := h
  have h1 := mem_selP.1 h1
  refine ⟨⟨h1.1, h2, h1.2⟩, fun b hb => ?_⟩
  rcases h3 b (mem_selP.2 ⟨hb.1, hb.2.2⟩) with h | h
  · exact absurd h hb.2.1
  · exact h
theorem asc_nodup {L : List Pid} (h : Asc L) : L.Nodup := List.Pairwise.imp (fun {a b} hab e => by subst e; rw [ltP_irr] at hab; cases hab) h
theorem Gro.nodup {N : List Nd} {a : Pid} {A M : List Pid} (h : Gro N a A M) : M.Nodup := soon_nodup h.srt
/-- As long as some of the group are lacking, one is found. -/
theorem Gro.found {N : List Nd} {a : Pid} {A M : List Pid} (hv : nodB N = true) (h : Gro N a A M) (ha : a ∈ idsN N) (hA : ∀ x, Sc (EI N) a x → ¬ x ∈ A) (hl : M.length < (selP N (Sc (EI N) a)).length) {o : Option Pid} (hf : FirstA N (selP N (Sc (EI N) a)) (A ++ M) o) : ∃ b, o = some b ∧ b ∈ idsN N ∧ Gro N a A (M ++ [b]) := by
  cases o with
  | none =>
    have := nodup_len (A := selP N (Sc (EI N) a)) (B := M) (asc_nodup (selP_asc (nod_of hv).2.2 _)) (fun x hx => by
      rcases List.mem_append.1 (hf x hx) with h' | h'
      · exact absurd h' (hA x (mem_selP.1 hx).2)
      · exact h')
    omega
  | some b =>
    obtain ⟨h1, h2, h3⟩ := hf
    exact ⟨b, rfl, (mem_selP.1 h1).1, h.next (mem_selP.1 h1).2 h2 (fun x hx => h3 x (mem_selP.2 ⟨sc_in hx ha, hx⟩)) hA⟩
theorem Gro.all {N : List Nd} {a : Pid} {A M : List Pid} (h : Gro N a A M) (ha : a ∈ idsN N) (hl : M.length = (selP N (Sc (EI N) a)).length) : ∀ b, b ∈ M ↔ Sc (EI N) a b := by
  intro b
  constructor
  · exact h.sub b
  · intro hb
    by_cases hm : b ∈ M
    · exact hm
    · have := nodup_len (A := b :: M) (B := selP N (Sc (EI N) a)) (List.nodup_cons.2 ⟨hm, h.nodup⟩) (fun x hx => by
        rcases List.mem_cons.1 hx with e | hx
        · subst e; exact mem_selP.2 ⟨sc_in hb ha, hb⟩
        · exact mem_selP.2 ⟨sc_in (h.sub x hx) ha, h.sub x hx⟩)
      rw [List.length_cons] at this
      omega

theorem row_stay {w w' : World} {B : Nat} {e : TypeId} {size : Nat} {v : Value} {n : Nat} {xs : List Value} (h : w.ownsRow B e size v n xs) (hs : ∀ k, v.ownBlock = some k → w'.heap[k]? = w.heap[k]?) : w'.ownsRow B e size v n xs := by
  refine ⟨h.1, ?_⟩
  rcases h.2 with hn | ⟨g, cap, cur, rfl, hb, hg, rest⟩
  · exact .inl hn
  · exact .inr ⟨g, cap, cur, rfl, hb, (hs g rfl).trans hg, rest⟩
/-- Where the loop over the nodes is. -/
structure L2 (N : List Nd) (A : List Pid) (w : World) (F0 : Nat) (wr : World) (vo vf : Value) (k : Nat) : Prop where
  out : Row wr w.heap.size vo A
  ol : ∀ b, vo.ownBlock = some b → b < F0
  free : Row wr F0 vf (selK N (FrA N A) k)
  bel : Below w.heap.size w wr
  f0 : w.heap.size ≤ F0
  f1 : F0 ≤ wr.heap.size
section
variable {N : List Nd} {A : List Pid} {w wr w' : World} {F0 k : Nat} {vo vf : Value}
theorem L2.up (h : L2 N A w F0 wr vo vf k) (hb : Below wr.heap.size wr w') : L2 N A w F0 w' vo vf k :=
  ⟨h.out.up hb, h.ol, h.free.up hb, bstep h.bel hb, h.f0, Nat.le_trans h.f1 hb.size⟩
theorem L2.miss (h : L2 N A w F0 wr vo vf k) (hk : k < N.length) (hn : ¬ FrA N A (N.getD k nd0).id) : L2 N A w F0 wr vo vf (k + 1) :=
  ⟨h.out, h.ol, by rw [selK_miss hk hn]; exact h.free, h.bel, h.f0, h.f1⟩
theorem L2.put (h : L2 N A w F0 wr vo vf k) (hk : k < N.length) {x y : Int} (he : (N.getD k nd0).id = (x, y)) (hs : FrA N A (N.getD k nd0).id) {o : Obj} {v' : Value}
    (hown : w'.ownsRow F0 25 2 v' ((selK N (FrA N A) k).length + 1) (flatP (selK N (FrA N A) k) ++ [.int .i64 x, .int .i64 y])) (hg : (wr.alloc o).grownBy w' (Value.ownBlock vf)) (hn : v' ≠ .slice none 0 0) : L2 N A w F0 w' vo v' (k + 1) := by
  have hU := h.up ((Below.refl wr.heap.size wr).alloc (Nat.le_refl _) o)
  have B4 := grown_below hU.free hg hU.f1
  refine ⟨⟨row_stay hU.out.1 fun b hb => B4.block b (h.ol b hb), hU.out.2⟩, h.ol, ?_, hU.bel.trans (B4.mono h.f0), h.f0, Nat.le_trans hU.f1 hg.size⟩
  rw [selK_next hk hs, he]; exact hU.free.put hown hn
end
/-- Where the loop over the group is. -/
structure L3 (N : List Nd) (a : Pid) (A M : List Pid) (w wr : World) (vo : Value) (gb gc : Nat) : Prop where
  out : Row wr w.heap.size vo (A ++ M)
  ne : vo.ownBlock ≠ some gb
  grp : OwnP wr gb (.slice (some ⟨gb, 0, none⟩) (selP N (Sc (EI N) a)).length gc) (selP N (Sc (EI N) a))
  bel : Below w.heap.size w wr
section
variable {N : List Nd} {a : Pid} {A M : List Pid} {w wr w' : World} {vo : Value} {gb gc : Nat}
theorem L3.up (h : L3 N a A M w wr vo gb gc) (hb : Below wr.heap.size wr w') : L3 N a A M w w' vo gb gc :=
  ⟨h.out.up hb, h.ne, h.grp.up hb h.grp.lt, bstep h.bel hb⟩
theorem L3.put (h : L3 N a A M w wr vo gb gc) {x y : Int} {o : Obj} {v' : Value}
    (hown : w'.ownsRow w.heap.size 25 2 v' ((A ++ M).length + 1) (flatP (A ++ M) ++ [.int .i64 x, .int .i64 y])) (hg : (wr.alloc o).grownBy w' (Value.ownBlock vo)) (hn : v' ≠ .slice none 0 0)
    (hat : v'.ownBlock = vo.ownBlock ∨ v'.ownBlock = some (wr.heap.size + 1)) : L3 N a A (M ++ [(x, y)]) w w' v' gb gc := by
  have hU := h.up ((Below.refl wr.heap.size wr).alloc (Nat.le_refl _) o)
  obtain ⟨K1, K2⟩ := app_keep h.grp.lt h.ne hg hat
  exact ⟨by rw [← List.append_assoc]; exact hU.out.put hown hn, K2, h.grp.same K1, hU.bel.trans (grown_below hU.out hg hU.bel.size)⟩
end

set_option maxRecDepth 100000 in
set_option maxHeartbeats 4000000 in
theorem sorder_at (g off cp : Nat) (N : List Nd) (U : Us) (w : World) (hv : nodB N = true) (hN : Nds w (.slice (some ⟨g, off, none⟩) N.length cp) N) (hA : NdAt w g off N U) (hcp : N.length ≤ cp) :
    Calls Tryd.prog 28 #[.slice (some ⟨g, off, none⟩) N.length cp] w (OnP N w) := by
  have D0 := (Below.refl w.heap.size w).alloc (Nat.le_refl _) (.cells #[] 25)
  have sv := snval_any _ N _ (hN.up D0 (Nat.le_refl _))
  rw [hv] at sv
  have R0 : Row (w.alloc (.cells #[] 25)) w.heap.size (.slice (some ⟨w.heap.size, 0, none⟩) 0 0) [] := row_new w _ (Nat.le_refl _)
  have R0 := Lib.hid R0
  have D0 := Lib.hid D0
  have srd := Lib.hid fun p q W (hb : Below w.heap.size w W) (hi : (p, q) ∈ idsN N) => srdy_at g off cp N U p q W hv (hA.up hb (Nat.le_refl _)) hcp hi
  have sfr := Lib.hid fun p q v D W (hb : Below w.heap.size w W) (hd : Ids W v D) => sfre_at g off cp N U p q v D W hv (hA.up hb (Nat.le_refl _)) hcp hd
  have sgr := Lib.hid fun p q W (hb : Below w.heap.size w W) => sgrp_at g off cp N U p q W hv (hA.up hb (Nat.le_refl _)) hcp
  have sfi := Lib.hid fun u v L D W (hb : Below w.heap.size w W) (hu : Ids W u L) (hd : Ids W v D) (hL : ∀ x ∈ L, x ∈ idsN N) => sfirst_at g off cp N U u v L D W hv (hA.up hb (Nat.le_refl _)) hcp hu hd hL
  have hN12 := (nod_of hv).1
  obtain ⟨i0, hi, hz0, hz1, hz2⟩ := info_parts infoQ
  have hv := Lib.hid hv
  have hA := Lib.hid hA
  obtain ⟨nn, hnn⟩ : ∃ n, Hid (N.length = n) := ⟨_, Lib.hid rfl⟩
  rw [hnn.out] at sv srd sfr sgr sfi hN12 hcp ⊢
  clear hN
  go_enter Tryd.func28, Tryd.ntmps28
  go_wp2_with fail
  refine sv.mono ?_
  rintro e w1 ⟨rfl, B⟩
  have D1 := Lib.hid (bstep D0.out B)
  have R1 := Lib.hid (R0.out.up B)
  clear B D0 R0 sv
  go_wp2_with fail
  go_loopw [3, 4] (fun vo i wr => ∃ (A : List Pid) (k : Nat), k ≤ nn ∧ i = .int .i64 k ∧ k ≤ A.length ∧ Hid (Row wr w.heap.size vo A) ∧ Hid (Pre N A) ∧ Hid (Below w.heap.size w wr)) (fun _ i _ => nn - (intOf i).toNat)
  case atStart => exact ⟨[], 0, Nat.zero_le _, rfl, Nat.zero_le _, R1, Lib.hid (Pre.start N), D1⟩
  case round =>
    clear R1 D1
    obtain ⟨A, k, hk, rfl, hkA, hR, hP, D⟩ := hrel
    have hA12 : A.length ≤ 12 := Nat.le_trans hP.out.len (by rw [hnn.out]; exact hN12)
    obtain ⟨og, oc, rfl, hog1, hog2, _, _⟩ := hR.out.shape
    by_cases hlt : k < nn
    · have L20 : Hid (L2 N A w wr.heap.size (wr.alloc (.cells #[] 25)) (.slice (some ⟨og, 0, none⟩) A.length oc) (.slice (some ⟨wr.heap.size, 0, none⟩) 0 0) 0) := by
        have b := (Below.refl wr.heap.size wr).alloc (Nat.le_refl _) (.cells #[] 25)
        exact Lib.hid ⟨hR.out.up b, fun b hb => by simp [Value.ownBlock] at hb; omega, by rw [selK_zero]; exact row_new wr _ (Nat.le_refl _), bstep D.out b, D.out.size, by simp⟩
      obtain ⟨F0, hF0⟩ : ∃ n, Hid (wr.heap.size = n) := ⟨_, Lib.hid rfl⟩
      rw [hF0.out] at L20
      clear hR D
      go_wp2_with fail
      go_loopw [5, 6] (fun vf i wr2 => ∃ j : Nat, j ≤ nn ∧ i = .int .i64 j ∧ Hid (L2 N A w F0 wr2 (.slice (some ⟨og, 0, none⟩) A.length oc) vf j)) (fun _ i _ => nn - (intOf i).toNat)
      case atStart => exact ⟨0, Nat.zero_le _, rfl, by simpa [hF0.out] using L20⟩
      case round =>
        clear L20
        obtain ⟨j, hj, rfl, hL⟩ := hrel
        obtain ⟨fg, fc, rfl, hfg1, hfg2, _, _⟩ := hL.out.free.shape
        have hkl := selK_len N (FrA N A) j
        by_cases hlt2 : j < nn
        · have hjN : j < N.length := by rw [hnn.out]; exact hlt2
          have hA2 := hA.out.up hL.out.bel (Nat.le_refl _)
          obtain ⟨x0, x1, _, _⟩ := hA2.cell j hjN
          have hin := mem_idsN.2 ⟨j, hjN, rfl⟩
          obtain ⟨d, hd⟩ : ∃ d, Hid ((N.getD j nd0).id = d) := ⟨_, Lib.hid rfl⟩
          rw [hd.out] at x0 x1 hin
          obtain ⟨p, q⟩ := d
          dsimp only at x0 x1
          have hgl := hA2.lt
          have hIo := (hL.out.out.own (by omega))
          obtain ⟨b9, _, hIo⟩ := hIo
          have hIo := Lib.hid hIo.read
          clear hA2
          have sr := srd.out p q _ hL.out.bel hin
          go_wp2_with fail
          refine sr.mono ?_
          rintro e w4 ⟨⟨z, rfl, hz⟩, B⟩
          have L4 := Lib.hid (hL.out.up B)
          have x0 := cell_later B x0
          have x1 := cell_later B x1
          have hgl4 := Nat.lt_of_lt_of_le hgl B.size
          replace hIo := Lib.hid (hIo.out.up B (Nat.le_refl _))
          clear hL B sr
          cases z with
          | false =>
            have R := Lib.hid (L4.out.miss hjN (by rw [hd.out]; exact fun h => nomatch (hz.2 h.1)))
            go_wp2_with fail
            refine ⟨⟨j + 1, by omega, by go_num, R⟩, ?_⟩
            simp [intOf]; omega
          | true =>
            replace hz := hz.1 rfl
            by_cases hf : FrA N A (p, q)
            · have sf := sfr.out p q _ A _ L4.out.bel hIo.out true ⟨fun _ => hf.2, fun _ => rfl⟩
              replace hf := Lib.hid (show FrA N A (N.getD j nd0).id by rw [hd.out]; exact hf)
              clear hz
              go_wp2_with fail
              refine sf.mono ?_
              rintro e w5 ⟨rfl, B⟩
              have L5 := Lib.hid (L4.out.up B)
              have x0 := cell_later B x0
              have x1 := cell_later B x1
              have hgl5 := Nat.lt_of_lt_of_le hgl4 B.size
              clear L4 hIo B sf
              go_wp2_with (at_builtin; refine wpList_append_own _ rfl _ _ 28 rfl F0 25 i0 (.agg #[.int .i64 0, .int .i64 0]) 2 16 Tryd.underlying28 hi hz0 hz1 hz2 rfl (by decide) _ _ _ rfl (L5.out.free.1.alloc _) ⟨w5.heap.size, 0, none⟩ 1 1 [.int .i64 p, .int .i64 q] rfl rfl ?c1 ?c2 ?c3 ?c4 ?c5 ?_)
              first | (case c1 => exact two_cells _ _ _ _ _ (by simp)) | skip
              case c2 => first | exact ⟨rfl, rfl⟩ | (intro u hu; simp at hu; rcases hu with rfl | rfl <;> rfl)
              case c3 => unfold maxLen; omega
              case c4 => omega
              case c5 => have := L5.out.f1; simp; omega
              intro v' w6 hown' hgrow hnil
              have R := Lib.hid (L5.out.put hjN hd.out hf.out hown' hgrow (fun e => hnil e))
              clear hown' hgrow hnil L5
              go_wp2_with fail
              refine ⟨⟨j + 1, by omega, by go_num, R⟩, ?_⟩
              simp [intOf]; omega
            · have sf := sfr.out p q _ A _ L4.out.bel hIo.out false ⟨fun h => (nomatch h), fun h => absurd ⟨hz, h⟩ hf⟩
              replace hf := Lib.hid (show ¬ FrA N A (N.getD j nd0).id by rw [hd.out]; exact hf)
              clear hz
              go_wp2_with fail
              refine sf.mono ?_
              rintro e w5 ⟨rfl, B⟩
              have R := Lib.hid ((L4.out.up B).miss hjN hf.out)
              clear L4 hIo B sf
              go_wp2_with fail
              refine ⟨⟨j + 1, by omega, by go_num, R⟩, ?_⟩
              simp [intOf]; omega
        · obtain rfl : j = nn := by omega
          have hall : selK N (FrA N A) j = selP N (FrA N A) := by have := selK_all N (FrA N A); rw [hnn.out] at this; exact this
          have hfr := hL.out.free
          rw [hall] at hfr ⊢
          have hSl : (selP N (FrA N A)).length ≤ 12 := Nat.le_trans (selP_len N _) (by rw [hnn.out]; exact hN12)
          obtain ⟨bf, _, hIf⟩ := hfr.own (by omega)
          obtain ⟨bo, hbo, hIo⟩ := hL.out.out.own (by omega)
          have sf := sfi.out _ _ (selP N (FrA N A)) A _ hL.out.bel hIf.read hIo.read (fun x hx => (mem_selP.1 hx).1)
          have hIo := Lib.hid hIo
          clear hfr hIf hall
          go_wp2_with fail
          refine sf.mono ?_
          rintro e w4 ⟨o, rfl, hfi, B⟩
          have D4 := Lib.hid (bstep hL.out.bel B)
          have R4 := Lib.hid (hL.out.out.up B)
          replace hIo := Lib.hid (hIo.out.up B hIo.out.lt)
          have hfi := Lib.hid hfi
          clear hL B sf
          cases o with
          | none =>
            have hfin := Lib.hid (hP.out.stop (first_none hfi.out))
            go_wp2_with fail
            go_ret
            exact ⟨bo, _, A, hbo, rfl, hIo.out.same (Below.heap_alloc _ _ _ hIo.out.lt), ⟨fun x => (by rw [hv.out] at x; cases x), fun _ => hfin.out⟩, hA12, D4.out.alloc D4.out.size _⟩
          | some a =>
            obtain ⟨x, y⟩ := a
            have hfs := first_some hfi.out
            have hgn := hfs.1
            have hnew := Lib.hid (hgn.new (M := selP N (Sc (EI N) (x, y))) (fun b => ⟨fun h => (mem_selP.1 h).2, fun h => mem_selP.2 ⟨sc_in h hgn.1, h⟩⟩) hP.out.1)
            have hfs := Lib.hid hfs
            dsimp only [Option.getD]
            have sg := sgr.out x y _ (D4.out.alloc D4.out.size (.cells #[.int .i64 x, .int .i64 y] 25))
            have hogl : og < w4.heap.size := by obtain ⟨_, _, e, _, h, _⟩ := R4.out.shape; injection e with e1 _ _; injection e1 with e1; injection e1 with e1 _ _; rw [e1]; exact h
            clear hgn hIo
            go_wp2_with fail
            refine sg.mono ?_
            rintro e w5 ⟨gb, gv, hgb, rfl, hG, B⟩
            obtain ⟨gc, rfl, hgc⟩ := hG.shape
            have hGl : (selP N (Sc (EI N) (x, y))).length ≤ 12 := Nat.le_trans (selP_len N _) (by rw [hnn.out]; exact hN12)
            have hGp : 0 < (selP N (Sc (EI N) (x, y))).length := List.length_pos_of_mem (mem_selP.2 ⟨hfs.out.1.1, .refl _⟩)
            have L30 : Hid (L3 N (x, y) A [] w w5 (.slice (some ⟨og, 0, none⟩) A.length oc) gb gc) := by
              have b := (Below.refl w4.heap.size w4).alloc (Nat.le_refl _) (.cells #[.int .i64 x, .int .i64 y] 25)
              have b2 := bstep b B
              exact Lib.hid ⟨by rw [List.append_nil]; exact R4.out.up b2, by simp [Value.ownBlock]; simp at hgb; omega, hG, bstep D4.out b2⟩
            clear R4 D4 B hG sg
            obtain ⟨gn, hgn⟩ : ∃ n, Hid ((selP N (Sc (EI N) (x, y))).length = n) := ⟨_, Lib.hid rfl⟩
            rw [hgn.out] at hgc hGl hGp ⊢
            go_wp2_with fail
            go_loopw [3, 10] (fun vo i wr2 => ∃ M : List Pid, M.length ≤ gn ∧ i = .int .i64 M.length ∧ Hid (L3 N (x, y) A M w wr2 vo gb gc) ∧ Hid (Gro N (x, y) A M)) (fun _ i _ => gn - (intOf i).toNat)
            case atStart => exact ⟨[], Nat.zero_le _, rfl, L30, Lib.hid (Gro.start N (x, y) A)⟩
            case round =>
              clear L30
              obtain ⟨M, hM, rfl, hL3, hGr⟩ := hrel
              have hAM : (A ++ M).length ≤ 24 := by rw [List.length_append]; omega
              obtain ⟨og3, oc3, rfl, hog3, hog4, _, _⟩ := hL3.out.out.shape
              obtain ⟨m, hm⟩ : ∃ m, Hid (M.length = m) := ⟨_, Lib.hid rfl⟩
              rw [hm.out] at hM ⊢
              by_cases hlt3 : m < gn
              · obtain ⟨bo3, _, hIo3⟩ := hL3.out.out.own (by omega)
                have sf := sfi.out _ _ (selP N (Sc (EI N) (x, y))) (A ++ M) _ hL3.out.bel hL3.out.grp.read hIo3.read (fun x hx => (mem_selP.1 hx).1)
                rw [hgn.out] at sf
                have hA3 := Lib.hid (fun x' (hx : Sc (EI N) (x, y) x') => (hnew.out x' (mem_selP.2 ⟨sc_in hx hfs.out.1.1, hx⟩)).1)
                clear hIo3
                obtain ⟨AM, hAMe⟩ : ∃ L, Hid (A ++ M = L) := ⟨_, Lib.hid rfl⟩
                have hgl3 := hL3.out.grp.lt
                rw [hAMe.out] at sf hAM ⊢
                go_wp2_with fail
                refine sf.mono ?_
                rintro e w6 ⟨o, rfl, hf6, B⟩
                obtain ⟨b, rfl, hb1, hb2⟩ := hGr.out.found hv.out hfs.out.1.1 hA3.out (by rw [hgn.out, hm.out]; exact hlt3) (by rw [hAMe.out]; exact hf6)
                obtain ⟨p, q⟩ := b
                have hb2 := Lib.hid hb2
                have L4 := Lib.hid (hL3.out.up B)
                have L5 := Lib.hid (L4.out.up ((Below.refl w6.heap.size w6).alloc (Nat.le_refl _) (.cells #[.int .i64 p, .int .i64 q] 25)))
                have hrow := L5.out.out.1
                rw [hAMe.out] at hrow
                have hrow := Lib.hid hrow
                have hwl : w.heap.size ≤ w6.heap.size := L4.out.bel.size
                dsimp only [Option.getD, Option.isSome]
                clear hL3 B sf hf6 hfi
                go_wp2_with (at_builtin; refine wpList_append_own_at _ rfl _ _ 28 rfl w.heap.size 25 i0 (.agg #[.int .i64 0, .int .i64 0]) 2 16 Tryd.underlying28 hi hz0 hz1 hz2 rfl (by decide) _ _ _ rfl (hrow.out.alloc _) ⟨w6.heap.size + 1, 0, none⟩ 1 1 [.int .i64 p, .int .i64 q] rfl rfl ?dc1 ?dc2 ?dc3 ?dc4 ?dc5 ?_)
                first | (case dc1 => exact two_cells _ _ _ _ _ (by simp)) | skip
                case dc2 => first | exact ⟨rfl, rfl⟩ | (intro u hu; simp at hu; rcases hu with rfl | rfl <;> rfl)
                case dc3 => unfold maxLen; omega
                case dc4 => omega
                case dc5 => simp; omega
                intro v' w7 hown' hgrow hnil hat
                rw [← hAMe.out] at hown'
                have R := Lib.hid (L5.out.put hown' hgrow (fun e => hnil e) (hat.imp (fun h => h) (fun h => by simpa using h)))
                clear hown' hgrow hnil hat L4 L5 hrow
                go_wp2_with fail
                refine ⟨⟨M ++ [(p, q)], by rw [List.length_append, hm.out]; exact hlt3, by rw [List.length_append, hm.out]; go_num, R, hb2⟩, ?_⟩
                simp [intOf]; omega
              · obtain rfl : m = gn := by omega
                have hMall := hGr.out.all hfs.out.1.1 (by rw [hgn.out]; exact hm.out)
                have hP2 := Lib.hid (hP.out.next hfs.out.1 hfs.out.2 hMall hGr.out.srt)
                have R := Lib.hid hL3.out.out
                have D := Lib.hid hL3.out.bel
                have hAMl : (A ++ M).length = A.length + M.length := List.length_append
                rw [hm.out] at hAMl
                have hAMl := Lib.hid hAMl
                clear hL3 hMall
                obtain ⟨AM, hAMe⟩ : ∃ L, Hid (A ++ M = L) := ⟨_, Lib.hid rfl⟩
                rw [hAMe.out] at R hP2 hAMl ⊢
                go_wp2_with fail
                refine ⟨⟨AM, k + 1, by omega, by go_num, by have := hAMl.out; omega, R, hP2, D⟩, ?_⟩
                simp [intOf]; omega
    · obtain rfl : k = nn := by omega
      have hfin := Lib.hid (hP.out.stop (hP.out.full (by rw [hnn.out]; exact hkA)))
      obtain ⟨b, hb, hOw⟩ := hR.out.own (by omega)
      have hOw := Lib.hid hOw
      go_wp2_with fail
      go_ret
      exact ⟨b, _, A, hb, rfl, hOw.out, ⟨fun x => (by rw [hv.out] at x; cases x), fun _ => hfin.out⟩, hA12, D.out⟩

set_option maxRecDepth 100000 in
theorem sorder_no (u : Value) (N : List Nd) (w : World) (hv : nodB N = false) (hN : Nds w u N) : Calls Tryd.prog 28 #[u] w (OnP N w) := by
  have D0 := (Below.refl w.heap.size w).alloc (Nat.le_refl _) (.cells #[] 25)
  have sv := snval_any _ N _ (hN.up D0 (Nat.le_refl _))
  rw [hv] at sv
  have R0 : Row (w.alloc (.cells #[] 25)) w.heap.size (.slice (some ⟨w.heap.size, 0, none⟩) 0 0) [] := row_new w _ (Nat.le_refl _)
  have R0 := Lib.hid R0
  have D0 := Lib.hid D0
  replace hv := Lib.hid hv
  clear hN
  go_enter Tryd.func28, Tryd.ntmps28
  go_wp2_with fail
  refine sv.mono ?_
  rintro e w1 ⟨rfl, B⟩
  have D1 := Lib.hid (bstep D0.out B)
  have R1 := Lib.hid (R0.out.up B)
  clear B D0 R0 sv
  go_wp2_with fail
  go_ret
  obtain ⟨b, hb, hO⟩ := R1.out.own (by simp)
  exact ⟨b, _, [], hb, rfl, hO, ⟨fun _ => rfl, fun x => (by rw [hv.out] at x; cases x)⟩, by simp, D1.out⟩

set_option maxRecDepth 100000 in
theorem sorder_nil (a : Option Addr) (cp : Nat) (w : World) : Calls Tryd.prog 28 #[.slice a 0 cp] w (OnP [] w) := by
  have D0 := (Below.refl w.heap.size w).alloc (Nat.le_refl _) (.cells #[] 25)
  have sv := snval_nil a cp (w.alloc (.cells #[] 25))
  have R0 : Row (w.alloc (.cells #[] 25)) w.heap.size (.slice (some ⟨w.heap.size, 0, none⟩) 0 0) [] := row_new w _ (Nat.le_refl _)
  have R0 := Lib.hid R0
  have D0 := Lib.hid D0
  go_enter Tryd.func28, Tryd.ntmps28
  go_wp2_with fail
  refine sv.mono ?_
  rintro e w1 ⟨rfl, B⟩
  have D1 := Lib.hid (bstep D0.out B)
  have R1 := Lib.hid (R0.out.up B)
  clear B D0 R0 sv
  go_wp2_with fail
  refine wp_loop_rounds 1 ?_
  rw [rounds_succ]
  go_wp2_with fail
  go_ret
  obtain ⟨b, hb, hO⟩ := R1.out.own (by simp)
  exact ⟨b, _, [], hb, rfl, hO, ⟨fun _ => rfl, fun _ => .stop _ fun a h => nomatch h.1⟩, by simp, D1.out⟩

/-- THE MODEL'S NodesOrder. -/
theorem sorder_any (u : Value) (N : List Nd) (w : World) (h : Nds w u N) : Calls Tryd.prog 28 #[u] w (OnP N w) := by
  cases hv : nodB N with
  | false => exact sorder_no u N w hv h
  | true =>
    have h' := h
    obtain ⟨a, cap, rfl, h1, h2, h3⟩ := h
    rcases h3 with h3 | ⟨b, off, rfl, h4, h5⟩
    · obtain rfl : N = [] := List.length_eq_zero_iff.1 h3
      exact sorder_nil a cap w
    · obtain ⟨U, hA⟩ := NdAt.of h4 h5
      exact sorder_at b off cap N U w hv h' hA h1
end Go.Proofs.YtbbnchodchgioaaDoor
