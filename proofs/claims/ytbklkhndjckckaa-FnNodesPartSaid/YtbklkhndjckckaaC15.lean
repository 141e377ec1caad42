/- Texts laid together. -/
import Derived.Test.YtbklkhndjckckaaC14
import Derived.Test.YtbklkhndjckckaaC09
import Derived.Test.YtbklkhndjckckaaC01
import Derived.Test.YtbklkhndjckckaaProg
import Derived.WalkKit
import Derived.WalkSpells
import Derived.Lib.Hide
import Derived.Deep.QuietTactic
import Derived.BigQuiet
import Derived.Test.YtbklkhndjckckaaC02
import Derived.Deep.RegionWith
import Derived.Deep.DeepCutAuto
import Derived.OwnWalk
import Derived.Test.YtbklkhndjckckaaRows
import Derived.ProofKit
import Derived.OpenShut
import Derived.ChangeOld
import Derived.Lib.SmallJoins
/- The model's NodesOrder. -/
namespace Go.Proofs.Ytbklkhndjckckaa
open Go.RowKit
set_option linter.unusedVariables false

/-- What the model calls free: ready, and all behind it is done or in its group. -/
def FrA (N : List Nd) (A : List Pid) (a : Pid) : Prop := RdI N a ∧ ∀ b, Rp (EI N) a b → b ∈ A ∨ Sc (EI N) a b
theorem frA_iff {N : List Nd} {A : List Pid} {a : Pid} : FreeI N (fun b => b ∈ A) a ↔ a ∈ idsN N ∧ ¬ a ∈ A ∧ FrA N A a := Iff.rfl
theorem first_none {N : List Nd} {A : List Pid} (h : FirstA N (selP N (FrA N A)) A none) : ∀ a, ¬ FreeI N (fun b => b ∈ A) a := fun a ha => ha.2.1 (h a (mem_selP.2 ⟨ha.1, ha.2.2⟩))
theorem first_some {N : List Nd} {A : List Pid} {a : Pid} (h : FirstA N (selP N (FrA N A)) A (some a)) : FreeI N (fun b => b ∈ A) a ∧ ∀ b, FreeI N (fun b => b ∈ A) b → b = a ∨ Soon N a b := by
  obtain ⟨h1, h2, h3⟩ := h
  have h1 := mem_selP.1 h1
  refine ⟨⟨h1.1, h2, h1.2⟩, fun b hb => ?_⟩
  rcases h3 b (mem_selP.2 ⟨hb.1, hb.2.2⟩) with h | h
  · exact absurd h hb.2.1
  · exact h
theorem asc_nodup {L : List Pid} (h : Asc L) : L.Nodup := List.Pairwise.imp (fun {a b} hab e => by subst e; rw [ltP_irr] at hab; cases hab) h
theorem Gro.nodup {N : List Nd} {a : Pid} {A M : List Pid} (h : Gro N a A M) : M.Nodup := soon_nodup h.srt
/-- As long as some of the group are lacking, one is found. -/
theorem Gro.found {N : List Nd} {a : Pid} {A M : List Pid} (hv : nodB N = true) (h : Gro N a A M) (ha : a ∈ idsN N) (hA : ∀ x, Sc (EI N) a x → ¬ x ∈ A) (hl : M.length < (selP N (Sc (EI N) a)).length) {o : Option Pid} (hf : FirstA N (selP N (Sc (EI N) a)) (A ++ M) o) : ∃ b, o = some b ∧ b ∈ idsN N ∧ Gro N a A (M ++ [b]) := by
  cases o with
  | none =>
    have := nodup_len (A := selP N (Sc (EI N) a)) (B := M) (asc_nodup (selP_asc (nod_of hv).2.2 _)) (fun x hx => by
      rcases List.mem_append.1 (hf x hx) with h' | h'
      · exact absurd h' (hA x (mem_selP.1 hx).2)
      · exact h')
    omega
  | some b =>
    obtain ⟨h1, h2, h3⟩ := hf
    exact ⟨b, rfl, (mem_selP.1 h1).1, h.next (mem_selP.1 h1).2 h2 (fun x hx => h3 x (mem_selP.2 ⟨sc_in hx ha, hx⟩)) hA⟩
theorem Gro.all {N : List Nd} {a : Pid} {A M : List Pid} (h : Gro N a A M) (ha : a ∈ idsN N) (hl : M.length = (selP N (Sc (EI N) a)).length) : ∀ b, b ∈ M ↔ Sc (EI N) a b := by
  intro b
  constructor
  · exact h.sub b
  · intro hb
    by_cases hm : b ∈ M
    · exact hm
    · have := nodup_len (A := b :: M) (B := selP N (Sc (EI N) a)) (List.nodup_cons.2 ⟨hm, h.nodup⟩) (fun x hx => by
        rcases List.mem_cons.1 hx with e | hx
        · subst e; exact mem_selP.2 ⟨sc_in hb ha, hb⟩
        · exact mem_selP.2 ⟨sc_in (h.sub x hx) ha, h.sub x hx⟩)
      rw [List.length_cons] at this
      omega

theorem row_stay {w w' : World} {B : Nat} {e : TypeId} {size : Nat} {v : Value} {n : Nat} {xs : List Value} (h : w.ownsRow B e size v n xs) (hs : ∀ k, v.ownBlock = some k → w'.heap[k]? = w.heap[k]?) : w'.ownsRow B e size v n xs := by
  refine ⟨h.1, ?_⟩
  rcases h.2 with hn | ⟨g, cap, cur, rfl, hb, hg, rest⟩
  · exact .inl hn
  · exact .inr ⟨g, cap, cur, rfl, hb, (hs g rfl).trans hg, rest⟩
/-- Where the loop over the nodes is. -/
structure L2 (N : List Nd) (A : List Pid) (w : World) (F0 : Nat) (wr : World) (vo vf : Value) (k : Nat) : Prop where
  out : Row wr w.heap.size vo A
  ol : ∀ b, vo.ownBlock = some b → b < F0
  free : Row wr F0 vf (selK N (FrA N A) k)
  bel : Below w.heap.size w wr
  f0 : w.heap.size ≤ F0
  f1 : F0 ≤ wr.heap.size
section
variable {N : List Nd} {A : List Pid} {w wr w' : World} {F0 k : Nat} {vo vf : Value}
theorem L2.up (h : L2 N A w F0 wr vo vf k) (hb : Below wr.heap.size wr w') : L2 N A w F0 w' vo vf k :=
  ⟨h.out.up hb, h.ol, h.free.up hb, bstep h.bel hb, h.f0, Nat.le_trans h.f1 hb.size⟩
theorem L2.miss (h : L2 N A w F0 wr vo vf k) (hk : k < N.length) (hn : ¬ FrA N A (N.getD k nd0).id) : L2 N A w F0 wr vo vf (k + 1) :=
  ⟨h.out, h.ol, by rw [selK_miss hk hn]; exact h.free, h.bel, h.f0, h.f1⟩
theorem L2.put (h : L2 N A w F0 wr vo vf k) (hk : k < N.length) {x y : Int} (he : (N.getD k nd0).id = (x, y)) (hs : FrA N A (N.getD k nd0).id) {o : Obj} {v' : Value}
    (hown : w'.ownsRow F0 31 2 v' ((selK N (FrA N A) k).length + 1) (flatP (selK N (FrA N A) k) ++ [.int .i64 x, .int .i64 y])) (hg : (wr.alloc o).grownBy w' (Value.ownBlock vf)) (hn : v' ≠ .slice none 0 0) : L2 N A w F0 w' vo v' (k + 1) := by
  have hU := h.up ((Below.refl wr.heap.size wr).alloc (Nat.le_refl _) o)
  have B4 := grown_below hU.free hg hU.f1
  refine ⟨⟨row_stay hU.out.1 fun b hb => B4.block b (h.ol b hb), hU.out.2⟩, h.ol, ?_, hU.bel.trans (B4.mono h.f0), h.f0, Nat.le_trans hU.f1 hg.size⟩
  rw [selK_next hk hs, he]; exact hU.free.put hown hn
end
/-- Where the loop over the group is. -/
structure L3 (N : List Nd) (a : Pid) (A M : List Pid) (w wr : World) (vo : Value) (gb gc : Nat) : Prop where
  out : Row wr w.heap.size vo (A ++ M)
  ne : vo.ownBlock ≠ some gb
  grp : OwnP wr gb (.slice (some ⟨gb, 0, none⟩) (selP N (Sc (EI N) a)).length gc) (selP N (Sc (EI N) a))
  bel : Below w.heap.size w wr
section
variable {N : List Nd} {a : Pid} {A M : List Pid} {w wr w' : World} {vo : Value} {gb gc : Nat}
theorem L3.up (h : L3 N a A M w wr vo gb gc) (hb : Below wr.heap.size wr w') : L3 N a A M w w' vo gb gc :=
  ⟨h.out.up hb, h.ne, h.grp.up hb h.grp.lt, bstep h.bel hb⟩
theorem L3.put (h : L3 N a A M w wr vo gb gc) {x y : Int} {o : Obj} {v' : Value}
    (hown : w'.ownsRow w.heap.size 31 2 v' ((A ++ M).length + 1) (flatP (A ++ M) ++ [.int .i64 x, .int .i64 y])) (hg : (wr.alloc o).grownBy w' (Value.ownBlock vo)) (hn : v' ≠ .slice none 0 0)
    (hat : v'.ownBlock = vo.ownBlock ∨ v'.ownBlock = some (wr.heap.size + 1)) : L3 N a A (M ++ [(x, y)]) w w' v' gb gc := by
  have hU := h.up ((Below.refl wr.heap.size wr).alloc (Nat.le_refl _) o)
  obtain ⟨K1, K2⟩ := app_keep h.grp.lt h.ne hg hat
  exact ⟨by rw [← List.append_assoc]; exact hU.out.put hown hn, K2, h.grp.same K1, hU.bel.trans (grown_below hU.out hg hU.bel.size)⟩
end

set_option maxRecDepth 100000 in
set_option maxHeartbeats 4000000 in
theorem sorder_at (g off cp : Nat) (N : List Nd) (U : Us) (w : World) (hv : nodB N = true) (hN : Nds w (.slice (some ⟨g, off, none⟩) N.length cp) N) (hA : NdAt w g off N U) (hcp : N.length ≤ cp) :
    Calls Try.prog 12 #[.slice (some ⟨g, off, none⟩) N.length cp] w (OnP N w) := by
  have D0 := (Below.refl w.heap.size w).alloc (Nat.le_refl _) (.cells #[] 31)
  have sv := snval_any _ N _ (hN.up D0 (Nat.le_refl _))
  rw [hv] at sv
  have R0 : Row (w.alloc (.cells #[] 31)) w.heap.size (.slice (some ⟨w.heap.size, 0, none⟩) 0 0) [] := row_new w _ (Nat.le_refl _)
  have R0 := Lib.hid R0
  have D0 := Lib.hid D0
  have srd := Lib.hid fun p q W (hb : Below w.heap.size w W) (hi : (p, q) ∈ idsN N) => srdy_at g off cp N U p q W hv (hA.up hb (Nat.le_refl _)) hcp hi
  have sfr := Lib.hid fun p q v D W (hb : Below w.heap.size w W) (hd : Ids W v D) => sfre_at g off cp N U p q v D W hv (hA.up hb (Nat.le_refl _)) hcp hd
  have sgr := Lib.hid fun p q W (hb : Below w.heap.size w W) => sgrp_at g off cp N U p q W hv (hA.up hb (Nat.le_refl _)) hcp
  have sfi := Lib.hid fun u v L D W (hb : Below w.heap.size w W) (hu : Ids W u L) (hd : Ids W v D) (hL : ∀ x ∈ L, x ∈ idsN N) => sfirst_at g off cp N U u v L D W hv (hA.up hb (Nat.le_refl _)) hcp hu hd hL
  have hN12 := (nod_of hv).1
  obtain ⟨i0, hi, hz0, hz1, hz2⟩ := info_parts infoQ
  have hv := Lib.hid hv
  have hA := Lib.hid hA
  obtain ⟨nn, hnn⟩ : ∃ n, Hid (N.length = n) := ⟨_, Lib.hid rfl⟩
  rw [hnn.out] at sv srd sfr sgr sfi hN12 hcp ⊢
  clear hN
  go_enter Try.func12, Try.ntmps12
  go_wp2_with fail
  refine sv.mono ?_
  rintro e w1 ⟨rfl, B⟩
  have D1 := Lib.hid (bstep D0.out B)
  have R1 := Lib.hid (R0.out.up B)
  clear B D0 R0 sv
  go_wp2_with fail
  go_loopw [3, 4] (fun vo i wr => ∃ (A : List Pid) (k : Nat), k ≤ nn ∧ i = .int .i64 k ∧ k ≤ A.length ∧ Hid (Row wr w.heap.size vo A) ∧ Hid (Pre N A) ∧ Hid (Below w.heap.size w wr)) (fun _ i _ => nn - (intOf i).toNat)
  case atStart => exact ⟨[], 0, Nat.zero_le _, rfl, Nat.zero_le _, R1, Lib.hid (Pre.start N), D1⟩
  case round =>
    clear R1 D1
    obtain ⟨A, k, hk, rfl, hkA, hR, hP, D⟩ := hrel
    have hA12 : A.length ≤ 12 := Nat.le_trans hP.out.len (by rw [hnn.out]; exact hN12)
    obtain ⟨og, oc, rfl, hog1, hog2, _, _⟩ := hR.out.shape
    by_cases hlt : k < nn
    · have L20 : Hid (L2 N A w wr.heap.size (wr.alloc (.cells #[] 31)) (.slice (some ⟨og, 0, none⟩) A.length oc) (.slice (some ⟨wr.heap.size, 0, none⟩) 0 0) 0) := by
        have b := (Below.refl wr.heap.size wr).alloc (Nat.le_refl _) (.cells #[] 31)
        exact Lib.hid ⟨hR.out.up b, fun b hb => by simp [Value.ownBlock] at hb; omega, by rw [selK_zero]; exact row_new wr _ (Nat.le_refl _), bstep D.out b, D.out.size, by simp⟩
      obtain ⟨F0, hF0⟩ : ∃ n, Hid (wr.heap.size = n) := ⟨_, Lib.hid rfl⟩
      rw [hF0.out] at L20
      clear hR D
      go_wp2_with fail
      go_loopw [5, 6] (fun vf i wr2 => ∃ j : Nat, j ≤ nn ∧ i = .int .i64 j ∧ Hid (L2 N A w F0 wr2 (.slice (some ⟨og, 0, none⟩) A.length oc) vf j)) (fun _ i _ => nn - (intOf i).toNat)
      case atStart => exact ⟨0, Nat.zero_le _, rfl, by simpa [hF0.out] using L20⟩
      case round =>
        clear L20
        obtain ⟨j, hj, rfl, hL⟩ := hrel
        obtain ⟨fg, fc, rfl, hfg1, hfg2, _, _⟩ := hL.out.free.shape
        have hkl := selK_len N (FrA N A) j
        by_cases hlt2 : j < nn
        · have hjN : j < N.length := by rw [hnn.out]; exact hlt2
          have hA2 := hA.out.up hL.out.bel (Nat.le_refl _)
          obtain ⟨x0, x1, _, _⟩ := hA2.cell j hjN
          have hin := mem_idsN.2 ⟨j, hjN, rfl⟩
          obtain ⟨d, hd⟩ : ∃ d, Hid ((N.getD j nd0).id = d) := ⟨_, Lib.hid rfl⟩
          rw [hd.out] at x0 x1 hin
          obtain ⟨p, q⟩ := d
          dsimp only at x0 x1
          have hgl := hA2.lt
          have hIo := (hL.out.out.own (by omega))
          obtain ⟨b9, _, hIo⟩ := hIo
          have hIo := Lib.hid hIo.read
          clear hA2
          have sr := srd.out p q _ hL.out.bel hin
          go_wp2_with fail
          refine sr.mono ?_
          rintro e w4 ⟨⟨z, rfl, hz⟩, B⟩
          have L4 := Lib.hid (hL.out.up B)
          have x0 := cell_later B x0
          have x1 := cell_later B x1
          have hgl4 := Nat.lt_of_lt_of_le hgl B.size
          replace hIo := Lib.hid (hIo.out.up B (Nat.le_refl _))
          clear hL B sr
          cases z with
          | false =>
            have R := Lib.hid (L4.out.miss hjN (by rw [hd.out]; exact fun h => nomatch (hz.2 h.1)))
            go_wp2_with fail
            refine ⟨⟨j + 1, by omega, by go_num, R⟩, ?_⟩
            simp [intOf]; omega
          | true =>
            replace hz := hz.1 rfl
            by_cases hf : FrA N A (p, q)
            · have sf := sfr.out p q _ A _ L4.out.bel hIo.out true ⟨fun _ => hf.2, fun _ => rfl⟩
              replace hf := Lib.hid (show FrA N A (N.getD j nd0).id by rw [hd.out]; exact hf)
              clear hz
              go_wp2_with fail
              refine sf.mono ?_
              rintro e w5 ⟨rfl, B⟩
              have L5 := Lib.hid (L4.out.up B)
              have x0 := cell_later B x0
              have x1 := cell_later B x1
              have hgl5 := Nat.lt_of_lt_of_le hgl4 B.size
              clear L4 hIo B sf
              go_wp2_with (at_builtin; refine wpList_append_own _ rfl _ _ 25 rfl F0 31 i0 (.agg #[.int .i64 0, .int .i64 0]) 2 16 Try.underlying25 hi hz0 hz1 hz2 rfl (by decide) _ _ _ rfl (L5.out.free.1.alloc _) ⟨w5.heap.size, 0, none⟩ 1 1 [.int .i64 p, .int .i64 q] rfl rfl ?c1 ?c2 ?c3 ?c4 ?c5 ?_)
              first | (case c1 => exact two_cells _ _ _ _ _ (by simp)) | skip
              case c2 => first | exact ⟨rfl, rfl⟩ | (intro u hu; simp at hu; rcases hu with rfl | rfl <;> rfl)
              case c3 => unfold maxLen; omega
              case c4 => omega
              case c5 => have := L5.out.f1; simp; omega
              intro v' w6 hown' hgrow hnil
              have R := Lib.hid (L5.out.put hjN hd.out hf.out hown' hgrow (fun e => hnil e))
              clear hown' hgrow hnil L5
              go_wp2_with fail
              refine ⟨⟨j + 1, by omega, by go_num, R⟩, ?_⟩
              simp [intOf]; omega
            · have sf := sfr.out p q _ A _ L4.out.bel hIo.out false ⟨fun h => (nomatch h), fun h => absurd ⟨hz, h⟩ hf⟩
              replace hf := Lib.hid (show ¬ FrA N A (N.getD j nd0).id by rw [hd.out]; exact hf)
              clear hz
              go_wp2_with fail
              refine sf.mono ?_
              rintro e w5 ⟨rfl, B⟩
              have R := Lib.hid ((L4.out.up B).miss hjN hf.out)
              clear L4 hIo B sf
              go_wp2_with fail
              refine ⟨⟨j + 1, by omega, by go_num, R⟩, ?_⟩
              simp [intOf]; omega
        · obtain rfl : j = nn := by omega
          have hall : selK N (FrA N A) j = selP N (FrA N A) := by have := selK_all N (FrA N A); rw [hnn.out] at this; exact this
          have hfr := hL.out.free
          rw [hall] at hfr ⊢
          have hSl : (selP N (FrA N A)).length ≤ 12 := Nat.le_trans (selP_len N _) (by rw [hnn.out]; exact hN12)
          obtain ⟨bf, _, hIf⟩ := hfr.own (by omega)
          obtain ⟨bo, hbo, hIo⟩ := hL.out.out.own (by omega)
          have sf := sfi.out _ _ (selP N (FrA N A)) A _ hL.out.bel hIf.read hIo.read (fun x hx => (mem_selP.1 hx).1)
          have hIo := Lib.hid hIo
          clear hfr hIf hall
          go_wp2_with fail
          refine sf.mono ?_
          rintro e w4 ⟨o, rfl, hfi, B⟩
          have D4 := Lib.hid (bstep hL.out.bel B)
          have R4 := Lib.hid (hL.out.out.up B)
          replace hIo := Lib.hid (hIo.out.up B hIo.out.lt)
          have hfi := Lib.hid hfi
          clear hL B sf
          cases o with
          | none =>
            have hfin := Lib.hid (hP.out.stop (first_none hfi.out))
            go_wp2_with fail
            go_ret
            exact ⟨bo, _, A, hbo, rfl, hIo.out.same (Below.heap_alloc _ _ _ hIo.out.lt), ⟨fun x => (by rw [hv.out] at x; cases x), fun _ => hfin.out⟩, hA12, D4.out.alloc D4.out.size _⟩
          | some a =>
            obtain ⟨x, y⟩ := a
            have hfs := first_some hfi.out
            have hgn := hfs.1
            have hnew := Lib.hid (hgn.new (M := selP N (Sc (EI N) (x, y))) (fun b => ⟨fun h => (mem_selP.1 h).2, fun h => mem_selP.2 ⟨sc_in h hgn.1, h⟩⟩) hP.out.1)
            have hfs := Lib.hid hfs
            dsimp only [Option.getD]
            have sg := sgr.out x y _ (D4.out.alloc D4.out.size (.cells #[.int .i64 x, .int .i64 y] 31))
            have hogl : og < w4.heap.size := by obtain ⟨_, _, e, _, h, _⟩ := R4.out.shape; injection e with e1 _ _; injection e1 with e1; injection e1 with e1 _ _; rw [e1]; exact h
            clear hgn hIo
            go_wp2_with fail
            refine sg.mono ?_
            rintro e w5 ⟨gb, gv, hgb, rfl, hG, B⟩
            obtain ⟨gc, rfl, hgc⟩ := hG.shape
            have hGl : (selP N (Sc (EI N) (x, y))).length ≤ 12 := Nat.le_trans (selP_len N _) (by rw [hnn.out]; exact hN12)
            have hGp : 0 < (selP N (Sc (EI N) (x, y))).length := List.length_pos_of_mem (mem_selP.2 ⟨hfs.out.1.1, .refl _⟩)
            have L30 : Hid (L3 N (x, y) A [] w w5 (.slice (some ⟨og, 0, none⟩) A.length oc) gb gc) := by
              have b := (Below.refl w4.heap.size w4).alloc (Nat.le_refl _) (.cells #[.int .i64 x, .int .i64 y] 31)
              have b2 := bstep b B
              exact Lib.hid ⟨by rw [List.append_nil]; exact R4.out.up b2, by simp [Value.ownBlock]; simp at hgb; omega, hG, bstep D4.out b2⟩
            clear R4 D4 B hG sg
            obtain ⟨gn, hgn⟩ : ∃ n, Hid ((selP N (Sc (EI N) (x, y))).length = n) := ⟨_, Lib.hid rfl⟩
            rw [hgn.out] at hgc hGl hGp ⊢
            go_wp2_with fail
            go_loopw [3, 10] (fun vo i wr2 => ∃ M : List Pid, M.length ≤ gn ∧ i = .int .i64 M.length ∧ Hid (L3 N (x, y) A M w wr2 vo gb gc) ∧ Hid (Gro N (x, y) A M)) (fun _ i _ => gn - (intOf i).toNat)
            case atStart => exact ⟨[], Nat.zero_le _, rfl, L30, Lib.hid (Gro.start N (x, y) A)⟩
            case round =>
              clear L30
              obtain ⟨M, hM, rfl, hL3, hGr⟩ := hrel
              have hAM : (A ++ M).length ≤ 24 := by rw [List.length_append]; omega
              obtain ⟨og3, oc3, rfl, hog3, hog4, _, _⟩ := hL3.out.out.shape
              obtain ⟨m, hm⟩ : ∃ m, Hid (M.length = m) := ⟨_, Lib.hid rfl⟩
              rw [hm.out] at hM ⊢
              by_cases hlt3 : m < gn
              · obtain ⟨bo3, _, hIo3⟩ := hL3.out.out.own (by omega)
                have sf := sfi.out _ _ (selP N (Sc (EI N) (x, y))) (A ++ M) _ hL3.out.bel hL3.out.grp.read hIo3.read (fun x hx => (mem_selP.1 hx).1)
                rw [hgn.out] at sf
                have hA3 := Lib.hid (fun x' (hx : Sc (EI N) (x, y) x') => (hnew.out x' (mem_selP.2 ⟨sc_in hx hfs.out.1.1, hx⟩)).1)
                clear hIo3
                obtain ⟨AM, hAMe⟩ : ∃ L, Hid (A ++ M = L) := ⟨_, Lib.hid rfl⟩
                have hgl3 := hL3.out.grp.lt
                rw [hAMe.out] at sf hAM ⊢
                go_wp2_with fail
                refine sf.mono ?_
                rintro e w6 ⟨o, rfl, hf6, B⟩
                obtain ⟨b, rfl, hb1, hb2⟩ := hGr.out.found hv.out hfs.out.1.1 hA3.out (by rw [hgn.out, hm.out]; exact hlt3) (by rw [hAMe.out]; exact hf6)
                obtain ⟨p, q⟩ := b
                have hb2 := Lib.hid hb2
                have L4 := Lib.hid (hL3.out.up B)
                have L5 := Lib.hid (L4.out.up ((Below.refl w6.heap.size w6).alloc (Nat.le_refl _) (.cells #[.int .i64 p, .int .i64 q] 31)))
                have hrow := L5.out.out.1
                rw [hAMe.out] at hrow
                have hrow := Lib.hid hrow
                have hwl : w.heap.size ≤ w6.heap.size := L4.out.bel.size
                dsimp only [Option.getD, Option.isSome]
                clear hL3 B sf hf6 hfi
                go_wp2_with (at_builtin; refine wpList_append_own_at _ rfl _ _ 25 rfl w.heap.size 31 i0 (.agg #[.int .i64 0, .int .i64 0]) 2 16 Try.underlying25 hi hz0 hz1 hz2 rfl (by decide) _ _ _ rfl (hrow.out.alloc _) ⟨w6.heap.size + 1, 0, none⟩ 1 1 [.int .i64 p, .int .i64 q] rfl rfl ?dc1 ?dc2 ?dc3 ?dc4 ?dc5 ?_)
                first | (case dc1 => exact two_cells _ _ _ _ _ (by simp)) | skip
                case dc2 => first | exact ⟨rfl, rfl⟩ | (intro u hu; simp at hu; rcases hu with rfl | rfl <;> rfl)
                case dc3 => unfold maxLen; omega
                case dc4 => omega
                case dc5 => simp; omega
                intro v' w7 hown' hgrow hnil hat
                rw [← hAMe.out] at hown'
                have R := Lib.hid (L5.out.put hown' hgrow (fun e => hnil e) (hat.imp (fun h => h) (fun h => by simpa using h)))
                clear hown' hgrow hnil hat L4 L5 hrow
                go_wp2_with fail
                refine ⟨⟨M ++ [(p, q)], by rw [List.length_append, hm.out]; exact hlt3, by rw [List.length_append, hm.out]; go_num, R, hb2⟩, ?_⟩
                simp [intOf]; omega
              · obtain rfl : m = gn := by omega
                have hMall := hGr.out.all hfs.out.1.1 (by rw [hgn.out]; exact hm.out)
                have hP2 := Lib.hid (hP.out.next hfs.out.1 hfs.out.2 hMall hGr.out.srt)
                have R := Lib.hid hL3.out.out
                have D := Lib.hid hL3.out.bel
                have hAMl : (A ++ M).length = A.length + M.length := List.length_append
                rw [hm.out] at hAMl
                have hAMl := Lib.hid hAMl
                clear hL3 hMall
                obtain ⟨AM, hAMe⟩ : ∃ L, Hid (A ++ M = L) := ⟨_, Lib.hid rfl⟩
                rw [hAMe.out] at R hP2 hAMl ⊢
                go_wp2_with fail
                refine ⟨⟨AM, k + 1, by omega, by go_num, by have := hAMl.out; omega, R, hP2, D⟩, ?_⟩
                simp [intOf]; omega
    · obtain rfl : k = nn := by omega
      have hfin := Lib.hid (hP.out.stop (hP.out.full (by rw [hnn.out]; exact hkA)))
      obtain ⟨b, hb, hOw⟩ := hR.out.own (by omega)
      have hOw := Lib.hid hOw
      go_wp2_with fail
      go_ret
      exact ⟨b, _, A, hb, rfl, hOw.out, ⟨fun x => (by rw [hv.out] at x; cases x), fun _ => hfin.out⟩, hA12, D.out⟩

set_option maxRecDepth 100000 in
theorem sorder_no (u : Value) (N : List Nd) (w : World) (hv : nodB N = false) (hN : Nds w u N) : Calls Try.prog 12 #[u] w (OnP N w) := by
  have D0 := (Below.refl w.heap.size w).alloc (Nat.le_refl _) (.cells #[] 31)
  have sv := snval_any _ N _ (hN.up D0 (Nat.le_refl _))
  rw [hv] at sv
  have R0 : Row (w.alloc (.cells #[] 31)) w.heap.size (.slice (some ⟨w.heap.size, 0, none⟩) 0 0) [] := row_new w _ (Nat.le_refl _)
  have R0 := Lib.hid R0
  have D0 := Lib.hid D0
  replace hv := Lib.hid hv
  clear hN
  go_enter Try.func12, Try.ntmps12
  go_wp2_with fail
  refine sv.mono ?_
  rintro e w1 ⟨rfl, B⟩
  have D1 := Lib.hid (bstep D0.out B)
  have R1 := Lib.hid (R0.out.up B)
  clear B D0 R0 sv
  go_wp2_with fail
  go_ret
  obtain ⟨b, hb, hO⟩ := R1.out.own (by simp)
  exact ⟨b, _, [], hb, rfl, hO, ⟨fun _ => rfl, fun x => (by rw [hv.out] at x; cases x)⟩, by simp, D1.out⟩

set_option maxRecDepth 100000 in
theorem sorder_nil (a : Option Addr) (cp : Nat) (w : World) : Calls Try.prog 12 #[.slice a 0 cp] w (OnP [] w) := by
  have D0 := (Below.refl w.heap.size w).alloc (Nat.le_refl _) (.cells #[] 31)
  have sv := snval_nil a cp (w.alloc (.cells #[] 31))
  have R0 : Row (w.alloc (.cells #[] 31)) w.heap.size (.slice (some ⟨w.heap.size, 0, none⟩) 0 0) [] := row_new w _ (Nat.le_refl _)
  have R0 := Lib.hid R0
  have D0 := Lib.hid D0
  go_enter Try.func12, Try.ntmps12
  go_wp2_with fail
  refine sv.mono ?_
  rintro e w1 ⟨rfl, B⟩
  have D1 := Lib.hid (bstep D0.out B)
  have R1 := Lib.hid (R0.out.up B)
  clear B D0 R0 sv
  go_wp2_with fail
  refine wp_loop_rounds 1 ?_
  rw [rounds_succ]
  go_wp2_with fail
  go_ret
  obtain ⟨b, hb, hO⟩ := R1.out.own (by simp)
  exact ⟨b, _, [], hb, rfl, hO, ⟨fun _ => rfl, fun _ => .stop _ fun a h => nomatch h.1⟩, by simp, D1.out⟩

/-- THE MODEL'S NodesOrder. -/
theorem sorder_any (u : Value) (N : List Nd) (w : World) (h : Nds w u N) : Calls Try.prog 12 #[u] w (OnP N w) := by
  cases hv : nodB N with
  | false => exact sorder_no u N w hv h
  | true =>
    have h' := h
    obtain ⟨a, cap, rfl, h1, h2, h3⟩ := h
    rcases h3 with h3 | ⟨b, off, rfl, h4, h5⟩
    · obtain rfl : N = [] := List.length_eq_zero_iff.1 h3
      exact sorder_nil a cap w
    · obtain ⟨U, hA⟩ := NdAt.of h4 h5
      exact sorder_at b off cap N U w hv h' hA h1
end Go.Proofs.Ytbklkhndjckckaa

/- The laws' sizes of slices of ids. -/
namespace Go.Proofs.Ytbklkhndjckckaa
open Go.RowKit
set_option linter.unusedVariables false

theorem szP_any (a : Option Addr) (n cap : Nat) (k : Int) (w : World) (hk : k = 1048576) (h : n ≤ 9223372036854775807) :
    Calls Try.prog 67 #[.slice a n cap, .int .i64 k] w fun e w' => e = .returned (.int .i64 (if 1048576 < n then -1 else 1048576 - n)) ∧ Below w.heap.size w w' := by
  subst hk
  by_cases hl : 1048576 < n
  · rw [if_pos hl]
    go_enter Try.func67, Try.ntmps67
    go_wp2_with fail
    go_ret
    exact ⟨rfl, Below.refl _ _⟩
  · rw [if_neg hl]
    go_enter Try.func67, Try.ntmps67
    go_wp2_with fail
    go_ret
    exact ⟨rfl, Below.refl _ _⟩

/-- .. with whatever is left. -/
theorem szP_gen (a : Option Addr) (n cap : Nat) (k : Int) (w : World) (hk : 0 ≤ k) (hk2 : k ≤ 1048576) (h : n ≤ 9223372036854775807) :
    Calls Try.prog 67 #[.slice a n cap, .int .i64 k] w fun e w' => e = .returned (.int .i64 (if k < n then -1 else k - n)) ∧ Below w.heap.size w w' := by
  by_cases hl : k < n
  · rw [if_pos hl]
    go_enter Try.func67, Try.ntmps67
    go_wp2_with fail
    go_ret
    exact ⟨rfl, Below.refl _ _⟩
  · rw [if_neg hl]
    go_enter Try.func67, Try.ntmps67
    go_wp2_with fail
    go_ret
    exact ⟨rfl, Below.refl _ _⟩
end Go.Proofs.Ytbklkhndjckckaa

/- The reader of codes (spec.l6Rd): what it holds, and its pick. -/
namespace Go.Proofs.Ytbklkhndjckckaa
open Go.RowKit
set_option linter.unusedVariables false

/-- Below block B, block r aside, the world is as it was. -/
structure Keep (B r : Nat) (w w' : World) : Prop where
  os : w'.os = w.os
  tape : w'.tape = w.tape
  output : w'.output = w.output
  size : w.heap.size ≤ w'.heap.size
  block : ∀ k, k < B → k ≠ r → w'.heap[k]? = w.heap[k]?

theorem Keep.refl (B r : Nat) (w : World) : Keep B r w w := ⟨rfl, rfl, rfl, Nat.le_refl _, fun _ _ _ => rfl⟩
theorem Keep.trans {B r : Nat} {a b c : World} (h : Keep B r a b) (k : Keep B r b c) : Keep B r a c :=
  ⟨k.os.trans h.os, k.tape.trans h.tape, k.output.trans h.output, Nat.le_trans h.size k.size, fun i hi hr => (k.block i hi hr).trans (h.block i hi hr)⟩
theorem Keep.mono {B B' r : Nat} {w w' : World} (h : Keep B r w w') (hB : B' ≤ B) : Keep B' r w w' := ⟨h.os, h.tape, h.output, h.size, fun k hk => h.block k (Nat.lt_of_lt_of_le hk hB)⟩
theorem Keep.of_below {B r : Nat} {w w' : World} (h : Below B w w') : Keep B r w w' := ⟨h.os, h.tape, h.output, h.size, fun k hk _ => h.block k hk⟩
theorem Keep.below {B r : Nat} {w w' : World} (h : Keep B r w w') (hr : B ≤ r) : Below B w w' := ⟨h.os, h.tape, h.output, h.size, fun k hk => h.block k hk (by omega)⟩
theorem Keep.drewN {B r : Nat} {a w : World} (h : Keep B r a w) (n : Nat) : Keep B r a (w.drewN n) := ⟨h.os, h.tape, h.output, h.size, h.block⟩
theorem Keep.alloc {B r : Nat} {a w : World} (h : Keep B r a w) (hB : B ≤ w.heap.size) (o : Obj) : Keep B r a (w.alloc o) :=
  h.trans (Keep.of_below ((Below.refl B w).alloc hB o))
theorem Keep.setCell {B r : Nat} {a w : World} (h : Keep B r a w) {p : Addr} (hp : B ≤ p.block) (u : Value) : Keep B r a (w.setCell p u) :=
  h.trans (Keep.of_below ((Below.refl B w).setCell hp u))
theorem Keep.setR {B r : Nat} {a w : World} (h : Keep B r a w) (i : Nat) (u : Value) : Keep B r a (w.setCell ⟨r, i, none⟩ u) :=
  h.trans ⟨rfl, rfl, rfl, by simp [World.setCell], fun k _ hk => Below.heap_setCell _ _ _ _ hk⟩

/-- What a walk takes of it: cells and marks of blocks behind r that were there. -/
theorem kcell {r : Nat} {W w1 : World} (hb : Keep W.heap.size r W w1) : (∀ b o, r < b → b < W.heap.size → w1.cell? ⟨b, o, none⟩ = W.cell? ⟨b, o, none⟩) ∧ (∀ b o, r < b → b < W.heap.size → w1.frozen? ⟨b, o, none⟩ = W.frozen? ⟨b, o, none⟩) :=
  ⟨fun b o hr h => World.cell?_of_block (a := ⟨b, o, none⟩) (hb.block b h (by omega)), fun b o hr h => World.frozen?_of_block (a := ⟨b, o, none⟩) (hb.block b h (by omega))⟩

/-- The bytes of a code: none, or the cells of a block. -/
def Bytes (w : World) (r : Nat) (a : Option Addr) (len : Nat) : Prop :=
  len = 0 ∨ ∃ b off, a = some ⟨b, off, none⟩ ∧ b < r ∧ ∀ i, i < len → ∃ z : Int, 0 ≤ z ∧ z ≤ 255 ∧ w.cell? ⟨b, off + i, none⟩ = some (.int .u8 z)

/-- A reader in block r, at a place up to n. -/
def Rd (w : World) (r n : Nat) : Prop :=
  ∃ (a : Option Addr) (len cap : Nat) (p : Int), w.cell? ⟨r, 0, none⟩ = some (.slice a len cap) ∧ w.cell? ⟨r, 1, none⟩ = some (.int .i64 p) ∧ w.frozen? ⟨r, 1, none⟩ = false ∧ 0 ≤ p ∧ p ≤ n ∧ len ≤ 2000 ∧ r < w.heap.size ∧ Bytes w r a len


/-- What pick leaves. -/
def PickPost (k : Int) (r n : Nat) (w : World) (e : Ending) (w' : World) : Prop :=
  ∃ x : Int, e = .returned (.int .i64 x) ∧ 0 ≤ x ∧ (1 ≤ k → x < k) ∧ Rd w' r (n + 1) ∧ Keep w.heap.size r w w'

theorem Bytes.kept {w w' : World} {r : Nat} {a : Option Addr} {len : Nat} (h : Bytes w r a len) (hk : ∀ k, k < r → w'.heap[k]? = w.heap[k]?) : Bytes w' r a len := by
  rcases h with h | ⟨b, off, e, hb, hc⟩
  · exact .inl h
  · exact .inr ⟨b, off, e, hb, fun i hi => by
      obtain ⟨z, z0, z1, hz⟩ := hc i hi
      exact ⟨z, z0, z1, (World.cell?_of_block (a := ⟨b, off + i, none⟩) (hk b hb)).trans hz⟩⟩

/-- A reader is still the reader where nothing up to its block has turned. -/
theorem Rd.kept {w w' : World} {r n : Nat} (h : Rd w r n) (hb : Below (r + 1) w w') : Rd w' r n := by
  obtain ⟨a, len, cap, p, h0, h1, hf, hp0, hp1, hl, hr, hby⟩ := h
  exact ⟨a, len, cap, p, (hb.cell (p := ⟨r, 0, none⟩) (Nat.lt_succ_self r)).trans h0, (hb.cell (p := ⟨r, 1, none⟩) (Nat.lt_succ_self r)).trans h1, (hb.frozen (p := ⟨r, 1, none⟩) (Nat.lt_succ_self r)).trans hf, hp0, hp1, hl, Nat.lt_of_lt_of_le hr hb.size, hby.kept (fun k hk => hb.block k (by omega))⟩

theorem Rd.more {w : World} {r n m : Nat} (h : Rd w r n) (hm : n ≤ m) : Rd w r m := by
  obtain ⟨a, len, cap, p, h0, h1, hf, hp0, hp1, hl, hr, hby⟩ := h
  exact ⟨a, len, cap, p, h0, h1, hf, hp0, by omega, hl, hr, hby⟩

theorem Rd.lt {w : World} {r n : Nat} (h : Rd w r n) : r < w.heap.size := by
  obtain ⟨a, len, cap, p, h0, h1, hf, hp0, hp1, hl, hr, hby⟩ := h
  exact hr

/-- The place goes on by one. -/
theorem rd_next {w : World} {r n : Nat} {a : Option Addr} {len cap : Nat} {p : Int} (h0 : w.cell? ⟨r, 0, none⟩ = some (.slice a len cap)) (h1 : w.cell? ⟨r, 1, none⟩ = some (.int .i64 p)) (hf : w.frozen? ⟨r, 1, none⟩ = false)
    (hp0 : 0 ≤ p) (hp1 : p ≤ n) (hl : len ≤ 2000) (hr : r < w.heap.size) (hb : Bytes w r a len) : Rd (w.setCell ⟨r, 1, none⟩ (.int .i64 (p + 1))) r (n + 1) := by
  refine ⟨a, len, cap, p + 1, ?_, ?_, ?_, by omega, by omega, hl, by simpa using hr, hb.kept fun k hk => Below.heap_setCell _ _ _ _ (by simp; omega)⟩
  · go_simp
  · go_simp
  · go_simp

theorem Rd.alloc {w : World} {r n : Nat} (h : Rd w r n) (o : Obj) : Rd (w.alloc o) r n :=
  h.kept ((Below.refl _ _).alloc (Nat.succ_le_of_lt h.lt) _)
theorem Rd.setCell {w : World} {r n : Nat} (h : Rd w r n) {p : Addr} (hp : r < p.block) (u : Value) : Rd (w.setCell p u) r n :=
  h.kept ((Below.refl _ _).setCell (Nat.succ_le_of_lt hp) _)
theorem Rd.drewN {w : World} {r n : Nat} (h : Rd w r n) (m : Nat) : Rd (w.drewN m) r n :=
  h.kept ⟨rfl, rfl, rfl, Nat.le_refl _, fun _ _ => rfl⟩

theorem xor_i64 (a b : Nat) (ha : a < 9223372036854775808) (hb : b < 9223372036854775808) : bits .xor .i64 (a : Int) (b : Int) = ((a ^^^ b : Nat) : Int) := by
  have hx : a ^^^ b < 2 ^ 63 := Nat.xor_lt_two_pow (by omega) (by omega)
  have h1 : (BitVec.ofInt 64 (a : Int)).toNat = a := by
    rw [BitVec.ofInt_natCast, BitVec.toNat_ofNat]; exact Nat.mod_eq_of_lt (by omega)
  have h2 : (BitVec.ofInt 64 (b : Int)).toNat = b := by
    rw [BitVec.ofInt_natCast, BitVec.toNat_ofNat]; exact Nat.mod_eq_of_lt (by omega)
  show IntKind.i64.wrap ((BitVec.ofInt 64 (a : Int) ^^^ BitVec.ofInt 64 (b : Int)).toNat : Int) = _
  rw [BitVec.toNat_xor, h1, h2, IntKind.wrap_i64]
  omega

theorem xor_nn (x y : Int) (hx : 0 ≤ x) (hx' : x < 9223372036854775808) (hy : 0 ≤ y) (hy' : y < 9223372036854775808) : 0 ≤ bits .xor .i64 x y := by
  obtain ⟨a, rfl⟩ := Int.eq_ofNat_of_zero_le hx
  obtain ⟨b, rfl⟩ := Int.eq_ofNat_of_zero_le hy
  rw [xor_i64 a b (by omega) (by omega)]
  omega

set_option maxRecDepth 100000 in
set_option maxHeartbeats 1000000 in
theorem pick_low (k : Int) (r n : Nat) (w : World) (hrd : Rd w r n) (hn : n ≤ 1000000000) (hk : k < 1) :
    Calls Try.prog 45 #[.pointer (some ⟨r, 0, none⟩), .int .i64 k] w (PickPost k r n w) := by
  obtain ⟨a, len, cap, p, h0, h1, hf, hp0, hp1, hl, hr, hb⟩ := hrd
  have hnx := Lib.hid (rd_next h0 h1 hf hp0 hp1 hl hr hb)
  go_enter Try.func45, Try.ntmps45
  go_wp2_with fail
  go_ret
  exact ⟨0, rfl, Int.le_refl _, fun h => by omega, hnx.out, (Keep.refl _ _ _).setR _ _⟩

set_option maxRecDepth 100000 in
set_option maxHeartbeats 1000000 in
theorem pick_nil (k : Int) (r n : Nat) (w : World) (a : Option Addr) (cap : Nat) (p : Int) (h0 : w.cell? ⟨r, 0, none⟩ = some (.slice a 0 cap)) (h1 : w.cell? ⟨r, 1, none⟩ = some (.int .i64 p)) (hf : w.frozen? ⟨r, 1, none⟩ = false)
    (hp0 : 0 ≤ p) (hp1 : p ≤ n) (hr : r < w.heap.size) (hb : Bytes w r a 0) (hn : n ≤ 1000000000) (hk : 1 ≤ k) :
    Calls Try.prog 45 #[.pointer (some ⟨r, 0, none⟩), .int .i64 k] w (PickPost k r n w) := by
  have hnx := Lib.hid (rd_next h0 h1 hf hp0 hp1 (by omega) hr hb)
  go_enter Try.func45, Try.ntmps45
  go_wp2_with fail
  go_ret
  exact ⟨0, rfl, Int.le_refl _, fun h => by omega, hnx.out, (Keep.refl _ _ _).setR _ _⟩

set_option maxRecDepth 100000 in
set_option maxHeartbeats 1000000 in
theorem pick_at (k : Int) (r n : Nat) (w : World) (len cap : Nat) (p b off : Nat) (h0 : w.cell? ⟨r, 0, none⟩ = some (.slice (some ⟨b, off, none⟩) len cap)) (h1 : w.cell? ⟨r, 1, none⟩ = some (.int .i64 p)) (hf : w.frozen? ⟨r, 1, none⟩ = false)
    (hp1 : p ≤ n) (hl : len ≤ 2000) (hr : r < w.heap.size) (hb : Bytes w r (some ⟨b, off, none⟩) len) (hn : n ≤ 1000000000) (hbr : b < r) (hk : 1 ≤ k) (hpl : p < len) (z : Int) (hz : w.cell? ⟨b, off + p, none⟩ = some (.int .u8 z)) (hz0 : 0 ≤ z) (hz1 : z ≤ 255) :
    Calls Try.prog 45 #[.pointer (some ⟨r, 0, none⟩), .int .i64 k] w (PickPost k r n w) := by
  have hnx := Lib.hid (rd_next (n := n) h0 h1 hf (by omega) (by omega) hl hr hb)
  have hne : ((len : Int) == 0) = false := by simp; omega
  go_enter Try.func45, Try.ntmps45
  go_wp2_with fail
  go_ret
  exact ⟨z % k, rfl, Int.emod_nonneg _ (by omega), fun h => Int.emod_lt_of_pos _ (by omega), hnx.out, (Keep.refl _ _ _).setR _ _⟩

set_option maxRecDepth 100000 in
set_option maxHeartbeats 1000000 in
theorem pick_past (k : Int) (r n : Nat) (w : World) (len cap : Nat) (p : Int) (b off : Nat) (h0 : w.cell? ⟨r, 0, none⟩ = some (.slice (some ⟨b, off, none⟩) len cap)) (h1 : w.cell? ⟨r, 1, none⟩ = some (.int .i64 p)) (hf : w.frozen? ⟨r, 1, none⟩ = false)
    (hp0 : 0 ≤ p) (hp1 : p ≤ n) (hl : len ≤ 2000) (hr : r < w.heap.size) (hb : Bytes w r (some ⟨b, off, none⟩) len) (hn : n ≤ 1000000000) (hl0 : 0 < len) (hbr : b < r) (hk : 1 ≤ k) (hpl : len ≤ p) (z1 z2 : Int) (hz1 : w.cell? ⟨b, off + (p % len).toNat, none⟩ = some (.int .u8 z1)) (hz2 : w.cell? ⟨b, off + ((p * 7 + 3) % len).toNat, none⟩ = some (.int .u8 z2)) (hz : 0 ≤ z1 ∧ z1 ≤ 255 ∧ 0 ≤ z2 ∧ z2 ≤ 255) :
    Calls Try.prog 45 #[.pointer (some ⟨r, 0, none⟩), .int .i64 k] w (PickPost k r n w) := by
  have hnx := Lib.hid (rd_next h0 h1 hf hp0 hp1 hl hr hb)
  have hne : ((len : Int) == 0) = false := by simp; omega
  have c1 : p.tmod len = p % len := Int.tmod_eq_emod_of_nonneg hp0
  have c2 : IntKind.i64.wrap (p * 7) = p * 7 := IntWalk.i64_in _ (by omega)
  have c3 : IntKind.i64.wrap (p * 7 + 3) = p * 7 + 3 := IntWalk.i64_in _ (by omega)
  have c4 : (p * 7 + 3).tmod len = (p * 7 + 3) % len := Int.tmod_eq_emod_of_nonneg (by omega)
  have c5 : 0 ≤ p % len := Int.emod_nonneg _ (by omega)
  have c6 : p % len < len := Int.emod_lt_of_pos _ (by omega)
  have c7 : 0 ≤ (p * 7 + 3) % len := Int.emod_nonneg _ (by omega)
  have c8 : (p * 7 + 3) % len < len := Int.emod_lt_of_pos _ (by omega)
  have c9 : 0 ≤ p / len := Int.ediv_nonneg hp0 (by omega)
  have c10 : p / len ≤ 1000000000 := Int.le_trans (Int.ediv_le_self _ hp0) (by omega)
  have c11 : IntKind.i64.wrap (p / len * 53) = p / len * 53 := IntWalk.i64_in _ (by omega)
  have c12 : IntKind.i64.wrap (z1 * 131 + z2 * 1117 + p * 29 + p / len * 53) = z1 * 131 + z2 * 1117 + p * 29 + p / len * 53 := IntWalk.i64_in _ (by omega)
  have c13 : 0 ≤ z1 * 131 + z2 * 1117 + p * 29 + p / len * 53 := by omega
  have c14 := Lib.hid (xor_nn (z1 * 131 + z2 * 1117 + p * 29 + p / len * 53) ((z1 * 131 + z2 * 1117 + p * 29 + p / len * 53) / 64) c13 (by omega) (by omega) (by omega))
  go_enter Try.func45, Try.ntmps45
  go_wp2_with fail
  go_quiet (fail)
  go_wp2_with fail
  go_ret
  exact ⟨_, rfl, Int.tmod_nonneg _ c14.out, fun h => Int.tmod_lt_of_pos _ (by omega), hnx.out.drewN _, ((Keep.refl _ _ _).setR _ _).drewN _⟩

/-- PICK: a number from 0 to k-1 (0 if k is less than 1); the place goes on by one; all else is as it was. -/
theorem pick_any (k : Int) (r n : Nat) (w : World) (hrd : Rd w r n) (hn : n ≤ 1000000000) :
    Calls Try.prog 45 #[.pointer (some ⟨r, 0, none⟩), .int .i64 k] w (PickPost k r n w) := by
  by_cases hk : k < 1
  · exact pick_low k r n w hrd hn hk
  · obtain ⟨a, len, cap, p, h0, h1, hf, hp0, hp1, hl, hr, hb⟩ := hrd
    have hb' := hb
    rcases hb' with rfl | ⟨b, off, rfl, hbr, hc⟩
    · exact pick_nil k r n w a cap p h0 h1 hf hp0 hp1 hr hb hn (by omega)
    · by_cases hz : len = 0
      · subst hz
        exact pick_nil k r n w _ cap p h0 h1 hf hp0 hp1 hr hb hn (by omega)
      · by_cases hpl : p < len
        · obtain ⟨q, rfl⟩ := Int.eq_ofNat_of_zero_le hp0
          obtain ⟨z, z0, z1, hz⟩ := hc q (by omega)
          exact pick_at k r n w len cap q b off h0 h1 hf (by omega) hl hr hb hn hbr (by omega) (by omega) z hz z0 z1
        · have c5 : 0 ≤ p % len := Int.emod_nonneg _ (by omega)
          have c6 : p % len < len := Int.emod_lt_of_pos _ (by omega)
          have c7 : 0 ≤ (p * 7 + 3) % len := Int.emod_nonneg _ (by omega)
          have c8 : (p * 7 + 3) % len < len := Int.emod_lt_of_pos _ (by omega)
          obtain ⟨z1, a1, a2, hz1⟩ := hc (p % len).toNat (by omega)
          obtain ⟨z2, b1, b2, hz2⟩ := hc ((p * 7 + 3) % len).toNat (by omega)
          exact pick_past k r n w len cap p b off h0 h1 hf hp0 hp1 hl hr hb hn (by omega) hbr (by omega) (by omega) z1 z2 hz1 hz2 ⟨a1, a2, b1, b2⟩
end Go.Proofs.Ytbklkhndjckckaa

/- The laws' marks and sizes of slices of ids. -/
namespace Go.Proofs.Ytbklkhndjckckaa
open Go.RowKit
set_option linter.unusedVariables false

theorem OwnP.cap_le {w : World} {b : Nat} {v : Value} {C : List Pid} (h : OwnP w b v C) : C.length ≤ 2000000 := by
  obtain ⟨_, _, _, _, _, _, h, _⟩ := h; exact h

/-- Marks from k on, two an id. -/
def MarkedP (k : Int) (M : List Pid) : Prop := ∀ j : Nat, j < M.length → M.getD j nop = (k + 2 * j, k + 2 * j + 1)

theorem markP_up {M : List Pid} {k0 : Int} {k : Nat} (hM : k < M.length) (h : ∀ j : Nat, j < k → M.getD j nop = (k0 + 2 * j, k0 + 2 * j + 1)) : ∀ j : Nat, j < k + 1 → (M.set k (k0 + 2 * k, k0 + 2 * k + 1)).getD j nop = (k0 + 2 * j, k0 + 2 * j + 1) := by
  intro j hj
  by_cases e : j = k
  · subst e; rw [List.getD_eq_getElem?_getD, List.getElem?_set_self hM]; rfl
  · rw [List.getD_eq_getElem?_getD, List.getElem?_set_ne (fun x => e x.symm), ← List.getD_eq_getElem?_getD]; exact h j (by omega)

set_option maxRecDepth 100000 in
set_option maxHeartbeats 2000000 in
theorem markP_any (b : Nat) (u : Value) (C : List Pid) (k0 : Int) (w : World) (h : OwnP w b u C) (h0 : 0 ≤ k0) (h1 : k0 ≤ 1000000000) :
    Calls Try.prog 28 #[u, .int .i64 k0] w fun e w' => e = .returned (.int .i64 (k0 + 2 * C.length)) ∧ ∃ M, M.length = C.length ∧ MarkedP k0 M ∧ OwnP w' b u M ∧ Keep w.heap.size b w w' := by
  have hm := h.cap_le
  obtain ⟨cap, rfl, hcap⟩ := h.shape
  obtain ⟨n, hn⟩ : ∃ n, Hid (C.length = n) := ⟨_, Lib.hid rfl⟩
  rw [hn.out] at h hcap hm ⊢
  have h := Lib.hid h
  go_enter Try.func28, Try.ntmps28
  go_wp2_with fail
  go_loopw [1, 5] (fun q i wr => ∃ k : Nat, k ≤ n ∧ i = .int .i64 k ∧ q = .int .i64 (k0 + 2 * k) ∧ ∃ M : List Pid, Hid (M.length = n ∧ (∀ j : Nat, j < k → M.getD j nop = (k0 + 2 * j, k0 + 2 * j + 1)) ∧ OwnP wr b (.slice (some ⟨b, 0, none⟩) n cap) M) ∧ Hid (Keep w.heap.size b w wr)) (fun _ i _ => n - (intOf i).toNat)
  case atStart => exact ⟨0, Nat.zero_le _, rfl, by simp, C, Lib.hid ⟨hn.out, fun j hj => absurd hj (Nat.not_lt_zero _), h.out⟩, Lib.hid (Keep.refl _ _ _)⟩
  case round =>
    obtain ⟨k, hk, rfl, rfl, M, hM, hnx⟩ := hrel
    clear h
    by_cases hlt : k < n
    · obtain ⟨c0, c1⟩ := hM.out.2.2.cell k (by rw [hM.out.1]; exact hlt)
      have f0 := hM.out.2.2.free (k * 2)
      have f1 := hM.out.2.2.free (k * 2 + 1)
      have hs := hM.out.2.2.lt
      have R := Lib.hid (hM.out.2.2.set k (by rw [hM.out.1]; exact hlt) (k0 + 2 * k, k0 + 2 * k + 1))
      have R2 := Lib.hid (markP_up (by rw [hM.out.1]; exact hlt) hM.out.2.1)
      have hl := Lib.hid hM.out.1
      generalize M.getD k nop = y at c0 c1
      clear hM
      go_wp2_with fail
      go_roundw
      case rel => exact ⟨k + 1, by omega, by go_num, by go_num, M.set k (k0 + 2 * k, k0 + 2 * k + 1), Lib.hid ⟨by rw [List.length_set]; exact hl.out, R2.out, R.out⟩, Lib.hid ((hnx.out.setR _ _).setR _ _)⟩
      case measure => simp [intOf]; omega
    · obtain rfl : k = n := by omega
      go_wp2_with fail
      go_ret
      refine ⟨rfl, M, hM.out.1, ?_, hM.out.2.2, hnx.out⟩
      intro j hj
      exact hM.out.2.1 j (by rw [← hM.out.1]; exact hj)

set_option maxRecDepth 100000 in
set_option maxHeartbeats 2000000 in
theorem heldP_at (b off ca : Nat) (k0 : Int) (M : List Pid) (w : World) (hM : MarkedP k0 M) (hb : b < w.heap.size) (hm : M.length ≤ 2000000) (h : ∀ i, i < M.length → w.cell? ⟨b, off + i * 2, none⟩ = some (.int .i64 (M.getD i nop).1) ∧ w.cell? ⟨b, off + i * 2 + 1, none⟩ = some (.int .i64 (M.getD i nop).2)) (h0 : 0 ≤ k0) (h1 : k0 ≤ 1000000000) :
    Calls Try.prog 29 #[.slice (some ⟨b, off, none⟩) M.length ca, .int .i64 k0] w fun e w' => e = .returned (.int .i64 (k0 + 2 * M.length)) ∧ Below w.heap.size w w' := by
  have h : Hid (∀ i, i < M.length → w.cell? ⟨b, off + i * 2, none⟩ = some (.int .i64 (k0 + 2 * i)) ∧ w.cell? ⟨b, off + i * 2 + 1, none⟩ = some (.int .i64 (k0 + 2 * i + 1))) := Lib.hid fun i hi => by
    have := h i hi
    rw [hM i hi] at this
    exact this
  clear hM
  generalize M.length = n at hm h ⊢
  go_enter Try.func29, Try.ntmps29
  go_wp2_with fail
  go_loopw [1, 5] (fun q i wr => ∃ k : Nat, k ≤ n ∧ i = .int .i64 k ∧ q = .int .i64 (k0 + 2 * k) ∧ Below w.heap.size w wr) (fun _ i _ => n - (intOf i).toNat)
  case atStart => exact ⟨0, Nat.zero_le _, rfl, by simp, Below.refl _ _⟩
  case round =>
    obtain ⟨k, hk, rfl, rfl, hnx⟩ := hrel
    by_cases hlt : k < n
    · have c0 := (hnx.cell (p := ⟨b, off + k * 2, none⟩) hb).trans (h.out k hlt).1
      have c1 := (hnx.cell (p := ⟨b, off + k * 2 + 1, none⟩) hb).trans (h.out k hlt).2
      have hnx := Lib.hid hnx
      go_wp2_with fail
      go_roundw
      case rel => exact ⟨k + 1, by omega, by go_num, by go_num, hnx.out⟩
      case measure => simp [intOf]; omega
    · obtain rfl : k = n := by omega
      have hnx := Lib.hid hnx
      go_wp2_with fail
      go_ret
      exact ⟨rfl, hnx.out⟩

theorem heldP_nil (a : Option Addr) (ca : Nat) (k0 : Int) (w : World) :
    Calls Try.prog 29 #[.slice a 0 ca, .int .i64 k0] w fun e w' => e = .returned (.int .i64 (k0 + 2 * (0 : Nat))) ∧ Below w.heap.size w w' := by
  go_enter Try.func29, Try.ntmps29
  go_wp2_with fail
  refine wp_loop_rounds 1 ?_
  rw [rounds_succ]
  go_wp2_with fail
  go_ret
  exact ⟨by simp, Below.refl _ _⟩

/-- THE MARKS ARE THERE. -/
theorem heldP_any (u : Value) (k0 : Int) (M : List Pid) (w : World) (hM : MarkedP k0 M) (h : Ids w u M) (h0 : 0 ≤ k0) (h1 : k0 ≤ 1000000000) :
    Calls Try.prog 29 #[u, .int .i64 k0] w fun e w' => e = .returned (.int .i64 (k0 + 2 * M.length)) ∧ Below w.heap.size w w' := by
  obtain ⟨a, cap, rfl, h2, h3, h4⟩ := h
  rcases h4 with h4 | ⟨b, off, rfl, h5, h6⟩
  · rw [h4]
    exact heldP_nil a cap k0 w
  · exact heldP_at b off cap k0 M w hM h5 h3 h6 h0 h1
end Go.Proofs.Ytbklkhndjckckaa

/- The laws' markNodeS: what it leaves of other memory. -/
namespace Go.Proofs.Ytbklkhndjckckaa
open Go.RowKit
set_option linter.unusedVariables false

/-- A block with room. -/
def Sz (w : World) (b m : Nat) : Prop := ∃ cur t, w.heap[b]? = some (.cells cur t (0, 0)) ∧ m ≤ cur.size
theorem Sz.lt {w : World} {b m : Nat} (h : Sz w b m) : b < w.heap.size := by obtain ⟨_, _, h, _⟩ := h; exact lt_of_heap h
theorem Sz.cell {w : World} {b m j : Nat} (h : Sz w b m) (hj : j < m) : ∃ y, w.cell? ⟨b, j, none⟩ = some y := by
  obtain ⟨cur, t, h1, h2⟩ := h
  exact ⟨_, (cell_of_cells h1).trans (Array.getElem?_eq_getElem (by omega))⟩
theorem Sz.free {w : World} {b m : Nat} (h : Sz w b m) (j : Nat) : w.frozen? ⟨b, j, none⟩ = false := by
  obtain ⟨cur, t, h1, h2⟩ := h; simp [World.frozen?, h1]
theorem Sz.set {w : World} {b m : Nat} (h : Sz w b m) (c o : Nat) (v : Value) : Sz (w.setCell ⟨c, o, none⟩ v) b m := by
  obtain ⟨cur, t, h1, h2⟩ := h
  by_cases e : b = c
  · subst e; exact ⟨_, t, heap_setCell_same w b o cur t v h1, by simpa using h2⟩
  · exact ⟨cur, t, (heap_setCell_other w ⟨c, o, none⟩ b v e).trans h1, h2⟩
theorem OwnP.sz {w : World} {b : Nat} {v : Value} {C : List Pid} (h : OwnP w b v C) : Sz w b (2 * C.length) := by
  obtain ⟨cap, cur, t, _, h1, _, _, h4⟩ := h
  refine ⟨cur, t, h1, ?_⟩
  by_cases hz : C.length = 0
  · omega
  · have := (h4 (C.length - 1) (by omega)).2
    rcases Nat.lt_or_ge ((C.length - 1) * 2 + 1) cur.size with hh | hh
    · omega
    · rw [Array.getElem?_eq_none hh] at this; exact absurd this (by simp)
/-- Worlds where each block keeps its room. -/
def Rm (w w' : World) : Prop := ∀ b m, Sz w b m → Sz w' b m

set_option maxRecDepth 100000 in
set_option maxHeartbeats 2000000 in
theorem markZ_any (b n cap : Nat) (k0 : Int) (w : World) (h : Sz w b (2 * n)) (hn : n ≤ 2000000) (h0 : 0 ≤ k0) (h1 : k0 ≤ 1000000000000000) :
    Calls Try.prog 28 #[.slice (some ⟨b, 0, none⟩) n cap, .int .i64 k0] w fun e w' => e = .returned (.int .i64 (k0 + 2 * n)) ∧ Rm w w' ∧ Exc (fun c => c = b) w w' := by
  have h := Lib.hid h
  go_enter Try.func28, Try.ntmps28
  go_wp2_with fail
  go_loopw [1, 5] (fun q i wr => ∃ k : Nat, k ≤ n ∧ i = .int .i64 k ∧ q = .int .i64 (k0 + 2 * k) ∧ Hid (Rm w wr) ∧ Hid (Exc (fun c => c = b) w wr)) (fun _ i _ => n - (intOf i).toNat)
  case atStart => exact ⟨0, Nat.zero_le _, rfl, by simp, Lib.hid fun _ _ x => x, Lib.hid (Exc.refl _ _)⟩
  case round =>
    obtain ⟨k, hk, rfl, rfl, hR, hE⟩ := hrel
    by_cases hlt : k < n
    · have hS := hR.out _ _ h.out
      obtain ⟨y0, c0⟩ := hS.cell (j := k * 2) (by omega)
      obtain ⟨y1, c1⟩ := hS.cell (j := k * 2 + 1) (by omega)
      have f0 := hS.free (k * 2)
      have f1 := hS.free (k * 2 + 1)
      have hs := hS.lt
      clear hS
      have hR2 := Lib.hid (fun v u b' m' (x : Sz w b' m') => ((hR.out b' m' x).set b (k * 2) v).set b (k * 2 + 1) u)
      have hE2 := Lib.hid (fun v u => (hE.out.set (b := b) (.inl rfl) (k * 2) v).set (b := b) (.inl rfl) (k * 2 + 1) u)
      clear hR hE
      go_wp2_with fail
      go_roundw
      case rel => exact ⟨k + 1, by omega, by go_num, by go_num, Lib.hid (hR2.out _ _), Lib.hid (hE2.out _ _)⟩
      case measure => simp [intOf]; omega
    · obtain rfl : k = n := by omega
      go_wp2_with fail
      go_ret
      exact ⟨rfl, hR.out, hE.out⟩

/-- Nodes that can be marked: their blocks lie from B to E. -/
structure Mk (w : World) (B E g n : Nat) (L : Nat → Nat × Nat × Nat) : Prop where
  blk : ∃ cur t, w.heap[g]? = some (.cells cur t (0, 0)) ∧ n * 4 ≤ cur.size ∧ ∀ i, i < n → cur[i * 4 + 3]? = some (.slice (some ⟨(L i).1, 0, none⟩) (L i).2.1 (L i).2.2)
  g0 : B ≤ g
  g1 : g < E
  deps : ∀ i, i < n → (L i).1 ≠ g ∧ B ≤ (L i).1 ∧ (L i).1 < E ∧ (L i).2.1 ≤ 2000000 ∧ Sz w (L i).1 (2 * (L i).2.1)
section
variable {w w' : World} {B E g n : Nat} {L : Nat → Nat × Nat × Nat}
theorem Mk.up (h : Mk w B E g n L) (hb : Below w.heap.size w w') : Mk w' B E g n L := by
  obtain ⟨cur, t, h1, h2, h3⟩ := h.blk
  refine ⟨⟨cur, t, (hb.block g (lt_of_heap h1)).trans h1, h2, h3⟩, h.g0, h.g1, fun i hi => ?_⟩
  obtain ⟨a1, a2, a3, a4, cur', t', a5, a6⟩ := h.deps i hi
  exact ⟨a1, a2, a3, a4, cur', t', (hb.block _ (lt_of_heap a5)).trans a5, a6⟩
theorem Mk.sz (h : Mk w B E g n L) : Sz w g (n * 4) := by obtain ⟨cur, t, h1, h2, _⟩ := h.blk; exact ⟨cur, t, h1, h2⟩
theorem Mk.head (h : Mk w B E g n L) {i : Nat} (hi : i < n) : w.cell? ⟨g, i * 4 + 3, none⟩ = some (.slice (some ⟨(L i).1, 0, none⟩) (L i).2.1 (L i).2.2) := by
  obtain ⟨cur, t, h1, _, h3⟩ := h.blk; rw [cell_of_cells h1]; exact h3 i hi
theorem Mk.setg (h : Mk w B E g n L) (k : Nat) {j : Nat} (hj : j < 3) (v : Value) : Mk (w.setCell ⟨g, k * 4 + j, none⟩ v) B E g n L := by
  obtain ⟨cur, t, h1, h2, h3⟩ := h.blk
  refine ⟨⟨_, t, heap_setCell_same w g (k * 4 + j) cur t v h1, by simpa using h2, fun i hi => ?_⟩, h.g0, h.g1, fun i hi => ?_⟩
  · rw [Array.getElem?_setIfInBounds, if_neg (by omega)]; exact h3 i hi
  · obtain ⟨a1, a2, a3, a4, a5⟩ := h.deps i hi; exact ⟨a1, a2, a3, a4, a5.set _ _ _⟩
theorem Mk.marked (h : Mk w B E g n L) {i : Nat} (hi : i < n) (hr : Rm w w') (he : Exc (fun c => c = (L i).1) w w') : Mk w' B E g n L := by
  obtain ⟨cur, t, h1, h2, h3⟩ := h.blk
  refine ⟨⟨cur, t, he.at (fun e => (h.deps i hi).1 e.symm) h1, h2, h3⟩, h.g0, h.g1, fun j hj => ?_⟩
  obtain ⟨a1, a2, a3, a4, a5⟩ := h.deps j hj
  exact ⟨a1, a2, a3, a4, hr _ _ a5⟩
end
theorem NdO.mk {w : World} {B : Nat} {v : Value} {N : List Nd} (h : NdO w B v N) : ∃ g cap L, v = .slice (some ⟨g, 0, none⟩) N.length cap ∧ N.length ≤ 2000000 ∧ N.length ≤ cap ∧ Mk w B w.heap.size g N.length L := by
  obtain ⟨g, cap, cur, t, rfl, h0, hg, h1, h2, h3⟩ := h
  have hL : ∀ i, ∃ l : Nat × Nat × Nat, i < N.length → cur[i * 4 + 3]? = some (.slice (some ⟨l.1, 0, none⟩) l.2.1 l.2.2) ∧ l.1 ≠ g ∧ B ≤ l.1 ∧ l.1 < w.heap.size ∧ l.2.1 ≤ 2000000 ∧ Sz w l.1 (2 * l.2.1) := fun i => by
    by_cases hi : i < N.length
    · obtain ⟨_, _, _, b, u, q1, q2, c3, ho⟩ := h3 i hi
      have hc := ho.cap_le
      obtain ⟨uc, rfl, _⟩ := ho.shape
      exact ⟨(b, (N.getD i nd0).deps.length, uc), fun _ => ⟨c3, q2, q1, ho.lt, hc, ho.sz⟩⟩
    · exact ⟨(0, 0, 0), fun hh => absurd hh hi⟩
  refine ⟨g, cap, fun i => Classical.choose (hL i), rfl, h2, h1, ⟨⟨cur, t, hg, ?_, fun i hi => (Classical.choose_spec (hL i) hi).1⟩, h0, lt_of_heap hg, fun i hi => (Classical.choose_spec (hL i) hi).2⟩⟩
  by_cases hz : N.length = 0
  · omega
  · obtain ⟨_, _, _, b, u, _, _, c3, _⟩ := h3 (N.length - 1) (by omega)
    rcases Nat.lt_or_ge ((N.length - 1) * 4 + 3) cur.size with hh | hh
    · omega
    · rw [Array.getElem?_eq_none hh] at c3; exact absurd c3 (by simp)

set_option maxRecDepth 100000 in
set_option maxHeartbeats 4000000 in
/-- MARKS IN NODES: all else stays. -/
theorem markNs_any (B E g n cap : Nat) (L : Nat → Nat × Nat × Nat) (w : World) (hn : n ≤ 2000000) (h : Mk w B E g n L) :
    Calls Try.prog 27 #[.slice (some ⟨g, 0, none⟩) n cap, .int .i64 1] w fun e w' => ∃ z : Int, e = .returned (.int .i64 z) ∧ 0 ≤ z ∧ Exc (fun c => B ≤ c ∧ c < E) w w' := by
  have h := Lib.hid h
  have hg0 := h.out.g0
  have hg1 := h.out.g1
  go_enter Try.func27, Try.ntmps27
  go_wp2_with fail
  go_loopw [1, 5] (fun q i wr => ∃ (k : Nat) (z : Int), k ≤ n ∧ i = .int .i64 k ∧ q = .int .i64 z ∧ 0 ≤ z ∧ z ≤ 1 + 4000003 * k ∧ Hid (Mk wr B E g n L) ∧ Hid (Exc (fun c => B ≤ c ∧ c < E) w wr)) (fun _ i _ => n - (intOf i).toNat)
  case atStart => exact ⟨0, 1, Nat.zero_le _, rfl, rfl, by omega, by omega, h, Lib.hid (Exc.refl _ _)⟩
  case round =>
    clear h
    obtain ⟨k, z, hk, rfl, rfl, hz0, hz1, hM, hE⟩ := hrel
    by_cases hlt : k < n
    · have hS := hM.out.sz
      obtain ⟨y0, c0⟩ := hS.cell (j := k * 4) (by omega)
      obtain ⟨y1, c1⟩ := hS.cell (j := k * 4 + 1) (by omega)
      obtain ⟨y2, c2⟩ := hS.cell (j := k * 4 + 2) (by omega)
      have c3 := hM.out.head hlt
      have f0 := hS.free (k * 4)
      have f1 := hS.free (k * 4 + 1)
      have f2 := hS.free (k * 4 + 2)
      have hs := hS.lt
      have hM2 := ((hM.out.setg k (j := 0) (by omega) (.int .i64 z)).setg k (j := 1) (by omega) (.int .i64 (z + 1))).setg k (j := 2) (by omega) (.int .i64 (z + 1 + 1))
      have hE2 := ((hE.out.set (b := g) (.inl ⟨hg0, hg1⟩) (k * 4) (.int .i64 z)).set (b := g) (.inl ⟨hg0, hg1⟩) (k * 4 + 1) (.int .i64 (z + 1))).set (b := g) (.inl ⟨hg0, hg1⟩) (k * 4 + 2) (.int .i64 (z + 1 + 1))
      rw [Nat.add_zero] at hM2
      have hM2 := Lib.hid hM2
      have hE2 := Lib.hid hE2
      obtain ⟨d1, d2, d3, d4, d5⟩ := hM2.out.deps k hlt
      have mz := fun k0 => markZ_any _ _ (L k).2.2 k0 _ d5 d4
      obtain ⟨⟨lb, ln, lc⟩, hl⟩ : ∃ x, Hid (L k = x) := ⟨_, Lib.hid rfl⟩
      rw [hl.out] at c3 mz d2 d3 d4
      dsimp only at c3 mz d2 d3 d4
      clear hM hE d5 d1
      go_wp2_with fail
      refine (mz _ (by omega) (by omega)).mono ?_
      rintro e w3 ⟨rfl, hR3, hE3⟩
      have hM3 := Lib.hid (hM2.out.marked hlt hR3 (by rw [hl.out]; exact hE3))
      have hE4 := Lib.hid (hE2.out.trans hE3 (fun b _ e => by subst e; exact ⟨d2, d3⟩))
      clear hM2 hE2 hR3 hE3 mz c0 c1 c2 c3 f0 f1 f2
      go_wp2_with fail
      refine ⟨⟨k + 1, z + 1 + 1 + 1 + 2 * ln, by omega, by go_num, by go_num, by omega, by omega, hM3, hE4⟩, ?_⟩
      simp [intOf]; omega
    · obtain rfl : k = n := by omega
      go_wp2_with fail
      go_ret
      exact ⟨z, rfl, hz0, hE.out⟩
end Go.Proofs.Ytbklkhndjckckaa

/- The laws' comparison of nodes. -/
namespace Go.Proofs.Ytbklkhndjckckaa
open Go.RowKit
set_option linter.unusedVariables false

set_option maxRecDepth 100000 in
set_option maxHeartbeats 2000000 in
/-- A node is like itself. -/
theorem eqN_any (x : Nd) (u v : Value) (w : World) (hu : Ids w u x.deps) (hv : Ids w v x.deps) :
    Calls Try.prog 52 #[ndv x u, ndv x v] w fun e w' => e = .returned (.bool true) ∧ Below w.heap.size w w' := by
  have sc := fun W (hb : Below w.heap.size w W) => eqP_any u v x.deps W (hu.up hb (Nat.le_refl _)) (hv.up hb (Nat.le_refl _))
  obtain ⟨ua, uc, rfl, _⟩ := hu
  obtain ⟨va, vc, rfl, _⟩ := hv
  obtain ⟨⟨p, r⟩, s, C⟩ := x
  dsimp only [ndv] at sc ⊢
  obtain ⟨n, hn⟩ : ∃ n, Hid (C.length = n) := ⟨_, Lib.hid rfl⟩
  rw [hn.out] at sc ⊢
  have D0 := Lib.hid (((Below.refl w.heap.size w).alloc (Nat.le_refl _) (.cells #[.int .i64 p, .int .i64 r, .int .i64 s, .slice ua n uc] 33)).alloc (by simp) (.cells #[.int .i64 p, .int .i64 r, .int .i64 s, .slice va n vc] 33))
  go_enter Try.func52, Try.ntmps52
  go_wp2_with fail
  refine (eqP1 p r _).mono ?_
  rintro e w1 ⟨rfl, B⟩
  have D1 := Lib.hid (D0.out.trans (B.mono D0.out.size))
  have A1 := Lib.hid ((B.block w.heap.size (by simp; omega)).trans (hold (heap_alloc_new w (.cells #[.int .i64 p, .int .i64 r, .int .i64 s, .slice ua n uc] 33))))
  have O1 := Lib.hid ((B.block (w.heap.size + 1) (by simp)).trans (heap_alloc_at _ (.cells #[.int .i64 p, .int .i64 r, .int .i64 s, .slice va n vc] 33) _ (by simp)))
  obtain ⟨a0, a1, a2, a3⟩ := four_cells A1.out
  obtain ⟨o0, o1, o2, o3⟩ := four_cells O1.out
  clear D0 B
  go_wp2_with fail
  refine (sc _ D1.out).mono ?_
  rintro e w2 ⟨rfl, B⟩
  have D2 := Lib.hid (bstep D1.out B)
  clear sc B D1
  go_wp2_with fail
  go_ret
  exact ⟨rfl, D2.out⟩

set_option maxRecDepth 100000 in
set_option maxHeartbeats 4000000 in
theorem eqNs_at (b off ca b' off' ca' : Nat) (N : List Nd) (w : World) (hb : b < w.heap.size) (hb' : b' < w.heap.size) (hm : N.length ≤ 2000000) (h : ∀ i, i < N.length → NdIn w b (off + i * 4) (N.getD i nd0)) (h' : ∀ i, i < N.length → NdIn w b' (off' + i * 4) (N.getD i nd0)) :
    Calls Try.prog 23 #[.slice (some ⟨b, off, none⟩) N.length ca, .slice (some ⟨b', off', none⟩) N.length ca'] w fun e w' => e = .returned (.bool true) ∧ Below w.heap.size w w' := by
  have h := Lib.hid h
  have h' := Lib.hid h'
  obtain ⟨n, hn⟩ : ∃ n, Hid (N.length = n) := ⟨_, Lib.hid rfl⟩
  rw [hn.out] at hm ⊢
  go_enter Try.func23, Try.ntmps23
  go_wp2_with fail
  go_loopw [5] (fun i wr => ∃ k : Nat, k ≤ n ∧ i = .int .i64 k ∧ Below w.heap.size w wr) (fun i _ => n - (intOf i).toNat)
  case atStart => exact ⟨0, Nat.zero_le _, rfl, Below.refl _ _⟩
  case round =>
    obtain ⟨k, hk, rfl, hnx⟩ := hrel
    by_cases hlt : k < n
    · obtain ⟨ua, un, uc, h0, h1, h2, h3, h4⟩ := h.out k (by rw [hn.out]; exact hlt)
      obtain ⟨va, vn, vc, g0, g1, g2, g3, g4⟩ := h'.out k (by rw [hn.out]; exact hlt)
      have q0 := (hnx.cell (p := ⟨b, off + k * 4, none⟩) hb).trans h0
      have q1 := (hnx.cell (p := ⟨b, off + k * 4 + 1, none⟩) hb).trans h1
      have q2 := (hnx.cell (p := ⟨b, off + k * 4 + 2, none⟩) hb).trans h2
      have q3 := (hnx.cell (p := ⟨b, off + k * 4 + 3, none⟩) hb).trans h3
      have r0 := (hnx.cell (p := ⟨b', off' + k * 4, none⟩) hb').trans g0
      have r1 := (hnx.cell (p := ⟨b', off' + k * 4 + 1, none⟩) hb').trans g1
      have r2 := (hnx.cell (p := ⟨b', off' + k * 4 + 2, none⟩) hb').trans g2
      have r3 := (hnx.cell (p := ⟨b', off' + k * 4 + 3, none⟩) hb').trans g3
      have sc := fun W (hB : Below wr.heap.size wr W) => eqN_any (N.getD k nd0) (.slice ua un uc) (.slice va vn vc) W ((h4.up hnx (Nat.le_refl _)).up hB (Nat.le_refl _)) ((g4.up hnx (Nat.le_refl _)).up hB (Nat.le_refl _))
      clear h0 h1 h2 h3 h4 g0 g1 g2 g3 g4
      unfold ndv at sc
      generalize N.getD k nd0 = x at q0 q1 q2 r0 r1 r2 sc
      obtain ⟨⟨p, r⟩, s, C⟩ := x
      dsimp only at q0 q1 q2 r0 r1 r2 sc
      have hnx := Lib.hid hnx
      go_wp2_with fail
      go_region_with (first | (go_at_call 52; refine (sc _ (by first | exact Below.refl _ _ | exact Below.drew (Below.refl _ _))).mono ?_; rintro e w1 ⟨rfl, B⟩; have D1 := Lib.hid (bstep (Below.drew hnx.out) B); clear B))
      all_goals
        go_wp2_with fail
        go_roundw
        case rel => exact ⟨k + 1, by omega, by go_num, D1.out⟩
        case measure => simp [intOf]; omega
    · obtain rfl : k = n := by omega
      have hnx := Lib.hid hnx
      go_wp2_with fail
      go_ret
      exact ⟨rfl, hnx.out⟩

set_option maxRecDepth 100000 in
theorem eqNs_nil (a b : Option Addr) (ca cb : Nat) (w : World) :
    Calls Try.prog 23 #[.slice a 0 ca, .slice b 0 cb] w fun e w' => e = .returned (.bool true) ∧ Below w.heap.size w w' := by
  go_enter Try.func23, Try.ntmps23
  go_wp2_with fail
  refine wp_loop_rounds 1 ?_
  rw [rounds_succ]
  go_wp2_with fail
  go_ret
  exact ⟨rfl, Below.refl _ _⟩

/-- NODES ARE LIKE THEMSELVES. -/
theorem eqNs_any (u v : Value) (N : List Nd) (w : World) (hu : Nds w u N) (hv : Nds w v N) :
    Calls Try.prog 23 #[u, v] w fun e w' => e = .returned (.bool true) ∧ Below w.heap.size w w' := by
  obtain ⟨a, cap, rfl, h1, h2, h3⟩ := hu
  obtain ⟨a', cap', rfl, g1, g2, g3⟩ := hv
  rcases h3 with h3 | ⟨b, off, rfl, h4, h5⟩
  · obtain rfl : N = [] := List.length_eq_zero_iff.1 h3
    exact eqNs_nil a a' cap cap' w
  · rcases g3 with g3 | ⟨b', off', rfl, g4, g5⟩
    · obtain rfl : N = [] := List.length_eq_zero_iff.1 g3
      exact eqNs_nil _ _ _ _ w
    · exact eqNs_at b off cap b' off' cap' N w h4 g4 h2 h5 g5
end Go.Proofs.Ytbklkhndjckckaa

/- The laws' sizes of slices of nodes. -/
namespace Go.Proofs.Ytbklkhndjckckaa
open Go.RowKit
set_option linter.unusedVariables false

/-- A node that came in: what it depends on may be long. -/
def LN (w : World) (b o : Nat) : Prop := ∃ (p r s : Int) (ua : Option Addr) (un uc : Nat), w.cell? ⟨b, o, none⟩ = some (.int .i64 p) ∧ w.cell? ⟨b, o + 1, none⟩ = some (.int .i64 r) ∧ w.cell? ⟨b, o + 2, none⟩ = some (.int .i64 s) ∧ w.cell? ⟨b, o + 3, none⟩ = some (.slice ua un uc) ∧ un ≤ maxLen ∧ (1048576 < un ∨ ∃ C, Ids w (.slice ua un uc) C)
/-- Nodes that came in. -/
def LNs (w : World) (a : Option Addr) (len cap : Nat) : Prop := len ≤ maxLen ∧ len ≤ cap ∧ (len = 0 ∨ ∃ b off, a = some ⟨b, off, none⟩ ∧ b < w.heap.size ∧ ∀ i, i < len → LN w b (off + i * 4))

set_option maxRecDepth 100000 in
theorem szN_any (p r s : Int) (ua : Option Addr) (un uc : Nat) (k : Int) (w : World) (hk : 0 ≤ k) (hk2 : k ≤ 1048576) (h : un ≤ 9223372036854775807) :
    Calls Try.prog 50 #[.agg #[.int .i64 p, .int .i64 r, .int .i64 s, .slice ua un uc], .int .i64 k] w fun e w' => e = .returned (.int .i64 (if k < un then -1 else k - un)) ∧ Below w.heap.size w w' := by
  have sz := fun w => szP_gen ua un uc k w hk hk2 h
  by_cases hl : k < un
  · rw [if_pos hl] at sz ⊢
    go_enter Try.func50, Try.ntmps50
    go_wp2_with fail
    refine (sz _).mono ?_
    rintro e w1 ⟨rfl, hb⟩
    have D1 := Lib.hid (((Below.refl w.heap.size w).alloc (Nat.le_refl _) (.cells #[.int .i64 p, .int .i64 r, .int .i64 s, .slice ua un uc] 78)).trans (hb.mono (by simp)))
    clear hb sz
    go_wp2_with fail
    go_ret
    exact ⟨rfl, D1.out⟩
  · rw [if_neg hl] at sz ⊢
    obtain ⟨z, hz⟩ : ∃ z, k - (un : Int) = z := ⟨_, rfl⟩
    rw [hz] at sz ⊢
    have hz0 : ¬ z < 0 := by omega
    go_enter Try.func50, Try.ntmps50
    go_wp2_with fail
    refine (sz _).mono ?_
    rintro e w1 ⟨rfl, hb⟩
    have D1 := Lib.hid (((Below.refl w.heap.size w).alloc (Nat.le_refl _) (.cells #[.int .i64 p, .int .i64 r, .int .i64 s, .slice ua un uc] 78)).trans (hb.mono (by simp)))
    clear hb sz
    go_wp2_with fail
    go_ret
    exact ⟨rfl, D1.out⟩

set_option maxRecDepth 100000 in
set_option maxHeartbeats 2000000 in
theorem szNs_at (b off ca n : Nat) (w : World) (hb : b < w.heap.size) (hm : n ≤ 9223372036854775807) (h : ∀ i, i < n → LN w b (off + i * 4)) :
    Calls Try.prog 21 #[.slice (some ⟨b, off, none⟩) n ca, .int .i64 1048576] w fun e w' => (∃ z : Int, e = .returned (.int .i64 z) ∧ (z = -1 ∨ 0 ≤ z ∧ n ≤ 1048576 ∧ ∀ i, i < n → ∃ x, NdIn w b (off + i * 4) x)) ∧ Below w.heap.size w w' := by
  have h := Lib.hid h
  by_cases hl : 1048576 < n
  · go_enter Try.func21, Try.ntmps21
    go_wp2_with fail
    go_ret
    exact ⟨⟨_, rfl, .inl rfl⟩, Below.refl _ _⟩
  · go_enter Try.func21, Try.ntmps21
    go_wp2_with fail
    go_loopw [1, 5] (fun q i wr => ∃ (k : Nat) (l : Int), k ≤ n ∧ i = .int .i64 k ∧ q = .int .i64 l ∧ 0 ≤ l ∧ l ≤ 1048576 ∧ Hid (∀ i, i < k → ∃ x, NdIn w b (off + i * 4) x) ∧ Below w.heap.size w wr) (fun _ i _ => n - (intOf i).toNat)
    case atStart => exact ⟨0, 1048576 - n, Nat.zero_le _, rfl, rfl, by omega, by omega, Lib.hid (fun i hi => absurd hi (Nat.not_lt_zero _)), Below.refl _ _⟩
    case round =>
      obtain ⟨k, l, hk, rfl, rfl, hl0, hl1, hd, hnx⟩ := hrel
      by_cases hlt : k < n
      · obtain ⟨p, r, s, ua, un, uc, c0, c1, c2, c3, hun, hC⟩ := h.out k hlt
        have q0 := (hnx.cell (p := ⟨b, off + k * 4, none⟩) hb).trans c0
        have q1 := (hnx.cell (p := ⟨b, off + k * 4 + 1, none⟩) hb).trans c1
        have q2 := (hnx.cell (p := ⟨b, off + k * 4 + 2, none⟩) hb).trans c2
        have q3 := (hnx.cell (p := ⟨b, off + k * 4 + 3, none⟩) hb).trans c3
        have sz := fun w => szN_any p r s ua un uc l w hl0 hl1 (by simpa [maxLen] using hun)
        have hnx := Lib.hid hnx
        by_cases hlu : l < un
        · rw [if_pos hlu] at sz
          clear hC hd h c0 c1 c2 c3
          go_wp2_with fail
          refine (sz _).mono ?_
          rintro e w1 ⟨rfl, hb1⟩
          have D1 := Lib.hid (hnx.out.trans (hb1.mono hnx.out.size))
          clear hb1 sz hnx
          go_wp2_with fail
          go_ret
          exact ⟨⟨_, rfl, .inl rfl⟩, D1.out⟩
        · rw [if_neg hlu] at sz
          have hd := Lib.hid (up_to hd.out (by
            obtain ⟨C, hC⟩ := hC.resolve_left (by omega)
            exact ⟨⟨(p, r), s, C⟩, ua, un, uc, c0, c1, c2, c3, hC⟩))
          obtain ⟨z, hz⟩ : ∃ z, l - (un : Int) = z := ⟨_, rfl⟩
          rw [hz] at sz
          have hz0 : ¬ z < 0 := by omega
          have hz1 : z ≤ 1048576 := by omega
          clear hC c0 c1 c2 c3 h
          go_wp2_with fail
          refine (sz _).mono ?_
          rintro e w1 ⟨rfl, hb1⟩
          have D1 := Lib.hid (hnx.out.trans (hb1.mono hnx.out.size))
          clear hb1 sz hnx
          go_wp2_with fail
          go_roundw
          case rel => exact ⟨k + 1, z, by omega, by go_num, rfl, by omega, hz1, hd, D1.out⟩
          case measure => simp [intOf]; omega
      · obtain rfl : k = n := by omega
        have hnx := Lib.hid hnx
        clear h
        go_wp2_with fail
        go_ret
        exact ⟨⟨_, rfl, .inr ⟨hl0, by omega, hd.out⟩⟩, hnx.out⟩

set_option maxRecDepth 100000 in
theorem szNs_nil (a : Option Addr) (ca : Nat) (w : World) :
    Calls Try.prog 21 #[.slice a 0 ca, .int .i64 1048576] w fun e w' => e = .returned (.int .i64 1048576) ∧ Below w.heap.size w w' := by
  go_enter Try.func21, Try.ntmps21
  go_wp2_with fail
  refine wp_loop_rounds 1 ?_
  rw [rounds_succ]
  go_wp2_with fail
  go_ret
  exact ⟨rfl, Below.refl _ _⟩

theorem nds_of {w : World} {b off n ca : Nat} (hca : n ≤ ca) (hb : b < w.heap.size) (hn : n ≤ 2000000) (h : ∀ i, i < n → ∃ x, NdIn w b (off + i * 4) x) : ∃ N : List Nd, N.length = n ∧ Nds w (.slice (some ⟨b, off, none⟩) n ca) N := by
  haveI : Inhabited Nd := ⟨nd0⟩
  have hf : ∃ f : Nat → Nd, ∀ i, i < n → NdIn w b (off + i * 4) (f i) := by
    refine ⟨fun i => if hi : i < n then (h i hi).choose else nd0, fun i hi => ?_⟩
    show NdIn w b (off + i * 4) (if hi : i < n then (h i hi).choose else nd0)
    rw [dif_pos hi]; exact (h i hi).choose_spec
  obtain ⟨f, hf⟩ := hf
  have hl : ((List.range n).map f).length = n := by simp
  refine ⟨(List.range n).map f, hl, some ⟨b, off, none⟩, ca, by rw [hl], by omega, by omega, .inr ⟨b, off, rfl, hb, fun i hi => ?_⟩⟩
  rw [hl] at hi
  have hg : ((List.range n).map f).getD i nd0 = f i := by
    rw [List.getD_eq_getElem?_getD, List.getElem?_map, List.getElem?_range hi]; rfl
  rw [hg]; exact hf i hi

theorem szNs_any (a : Option Addr) (len cap : Nat) (w : World) (h : LNs w a len cap) :
    Calls Try.prog 21 #[.slice a len cap, .int .i64 1048576] w fun e w' => (∃ z : Int, e = .returned (.int .i64 z) ∧ (z = -1 ∨ 0 ≤ z ∧ ∃ N, N.length ≤ 1048576 ∧ Nds w (.slice a len cap) N)) ∧ Below w.heap.size w w' := by
  obtain ⟨hm, hca, h⟩ := h
  rcases h with rfl | ⟨b, off, rfl, hb, h⟩
  · refine (szNs_nil a cap w).mono ?_
    rintro e w1 ⟨rfl, hb⟩
    exact ⟨⟨_, rfl, .inr ⟨by omega, [], Nat.zero_le _, a, cap, rfl, Nat.zero_le _, Nat.zero_le _, .inl rfl⟩⟩, hb⟩
  · refine (szNs_at b off cap len w hb (by simpa [maxLen] using hm) h).mono ?_
    rintro e w1 ⟨⟨z, rfl, hz⟩, hb1⟩
    refine ⟨⟨z, rfl, hz.imp id fun ⟨h0, h1, h2⟩ => ?_⟩, hb1⟩
    obtain ⟨N, hN, hh⟩ := nds_of (ca := cap) hca hb (by omega) h2
    exact ⟨h0, N, by omega, hh⟩
end Go.Proofs.Ytbklkhndjckckaa

/- The walk of FnExactNodesOrder. -/
namespace Go.Proofs.Ytbklkhndjckckaa
open Go.RowKit
set_option linter.unusedVariables false

theorem OwnP.kept {w w' : World} {b r : Nat} {v : Value} {C : List Pid} (h : OwnP w b v C) (hk : Keep w.heap.size r w w') (hr : b ≠ r) : OwnP w' b v C := h.same (hk.block b h.lt hr)
theorem OwnP.apart {P : Nat → Prop} {w w' : World} {b : Nat} {v : Value} {C : List Pid} (h : OwnP w b v C) (he : Exc P w w') (hn : ¬ P b) : OwnP w' b v C := h.same (he.block b h.lt hn)

set_option maxRecDepth 100000 in
set_option maxHeartbeats 8000000 in
theorem exNodesOrder_any (a : Option Addr) (len cap : Nat) (w : World) (h : LNs w a len cap) :
    Calls Try.prog 9 #[.slice a len cap] w fun e w' => e = .returned (.bool true) ∧ Below w.heap.size w w' := by
  have sz := szNs_any a len cap _ h
  clear h
  go_enter Try.func9, Try.ntmps9
  go_wp2_with fail
  refine sz.mono ?_
  rintro e w1 ⟨⟨z, rfl, hz⟩, B⟩
  have D := Lib.hid B
  rcases hz with rfl | ⟨hz0, N, hN, hU⟩
  · clear B sz
    go_wp2_with fail
    go_ret
    exact ⟨rfl, D.out⟩
  · have hz1 : ¬ z < 0 := by omega
    have hU := Lib.hid (hU.up B (Nat.le_refl _))
    have tn := fun W (hb : Below w1.heap.size w1 W) => toNs_any _ N W (hU.out.up hb (Nat.le_refl _))
    have E := Lib.hid (Below.refl w1.heap.size w1)
    clear B sz hU
    go_wp2_with fail
    refine (tn _ E.out).mono ?_
    rintro e w2 ⟨u2, rfl, O2, B⟩
    have O2 := Lib.hid O2
    replace E := Lib.hid (bstep E.out B)
    clear B
    go_wp2_with fail
    refine (sorder_any _ N _ O2.out.read).mono ?_
    rintro e w3 ⟨g4, v4, S, hg4, rfl, O4, hS4, hSl, B⟩
    have O4 := Lib.hid O4
    have L4 := O4.out.lt
    replace E := Lib.hid (bstep E.out B)
    clear B O2
    go_wp2_with fail
    refine (tn _ E.out).mono ?_
    rintro e w4 ⟨u6, rfl, O6, B⟩
    have hw34 := E.out.size
    have O6 := Lib.hid O6
    have M6 := Lib.hid O6.out.mk
    obtain ⟨gx, cx, Lx, rfl, hx1, hx2, hx3⟩ := M6.out
    have hx3 := Lib.hid hx3
    replace O4 := Lib.hid (O4.out.up B L4)
    replace E := Lib.hid (bstep E.out B)
    obtain ⟨E6, hE6⟩ : ∃ n, Hid (w4.heap.size = n) := ⟨_, Lib.hid rfl⟩
    rw [hE6.out] at hx3
    have hE61 : w1.heap.size ≤ E6 := by rw [← hE6.out]; exact E.out.size
    clear B M6
    go_wp2_with fail
    refine (iorder_any _ N _ O6.out.read).mono ?_
    rintro e w5 ⟨g8, v8, S', hg8, rfl, O8, hS8, _, B⟩
    rw [hS8.det hS4] at O8
    rw [hE6.out] at hg8
    have O8 := Lib.hid O8
    have L8 := O8.out.lt
    have hS4 := Lib.hid hS4
    have n48 : g4 ≠ g8 := by have := O4.out.lt; have := hE6.out; omega
    replace O4 := Lib.hid (O4.out.up B O4.out.lt)
    replace O6 := Lib.hid (O6.out.up B)
    replace hx3 := Lib.hid (hx3.out.up B)
    replace E := Lib.hid (bstep E.out B)
    clear B hS8
    go_wp2_with fail
    refine (eqP_any _ _ S _ O8.out.read O4.out.read).mono ?_
    rintro e w6 ⟨rfl, B⟩
    replace O4 := Lib.hid (O4.out.up B O4.out.lt)
    replace O6 := Lib.hid (O6.out.up B)
    replace O8 := Lib.hid (O8.out.up B O8.out.lt)
    replace hx3 := Lib.hid (hx3.out.up B)
    replace E := Lib.hid (bstep E.out B)
    clear B
    go_wp2_with fail
    refine (tn _ E.out).mono ?_
    rintro e w7 ⟨u7, rfl, O7, B⟩
    replace O4 := Lib.hid (O4.out.up B O4.out.lt)
    replace O6 := Lib.hid (O6.out.up B)
    replace O8 := Lib.hid (O8.out.up B O8.out.lt)
    replace hx3 := Lib.hid (hx3.out.up B)
    replace E := Lib.hid (bstep E.out B)
    have O7 := Lib.hid O7
    clear B
    go_wp2_with fail
    refine (eqNs_any _ _ N _ O6.out.read O7.out.read).mono ?_
    rintro e w8 ⟨rfl, B⟩
    replace O4 := Lib.hid (O4.out.up B O4.out.lt)
    replace O8 := Lib.hid (O8.out.up B O8.out.lt)
    replace hx3 := Lib.hid (hx3.out.up B)
    replace E := Lib.hid (bstep E.out B)
    have mk := markNs_any _ _ gx N.length cx Lx _ hx1 hx3.out
    clear B O6 O7
    go_wp2_with fail
    refine mk.mono ?_
    rintro e w9 ⟨zk, rfl, hzk, X⟩
    have hzk2 : ¬ zk < 0 := by omega
    replace O4 := Lib.hid (O4.out.apart X (by omega))
    replace O8 := Lib.hid (O8.out.apart X (by omega))
    replace E := Lib.hid (E.out.trans (X.to (B := w1.heap.size) E.out.size (fun b hb => by have := hg4; omega)))
    clear X mk hx3
    go_wp2_with fail
    refine (eqP_any _ _ S _ O8.out.read O4.out.read).mono ?_
    rintro e w10 ⟨rfl, B⟩
    replace O4 := Lib.hid (O4.out.up B O4.out.lt)
    replace O8 := Lib.hid (O8.out.up B O8.out.lt)
    replace E := Lib.hid (bstep E.out B)
    clear B
    obtain ⟨ns, hns⟩ : ∃ n, Hid (S.length = n) := ⟨_, Lib.hid rfl⟩
    have hl1 := hSl
    rw [hns.out] at hl1
    go_wp2_with fail
    refine (markP_any g8 _ S (1) _ O8.out (by omega) (by omega)).mono ?_
    rintro e w11 ⟨rfl, M11, hM, hMk, OM, hb⟩
    replace O4 := Lib.hid (O4.out.kept hb n48)
    replace E := Lib.hid (E.out.trans ((hb.mono (B' := w1.heap.size) E.out.size).below (by omega)))
    replace O8 := Lib.hid OM
    have hMk := Lib.hid hMk
    have hM := Lib.hid hM
    clear hb OM
    rw [hns.out]
    go_wp2_with fail
    refine (heldP_any _ 1 M11 _ hMk.out O8.out.read (by omega) (by omega)).mono ?_
    rw [hM.out, hns.out]
    rintro e w12 ⟨rfl, B⟩
    replace O4 := Lib.hid (O4.out.up B O4.out.lt)
    replace O8 := Lib.hid (O8.out.up B O8.out.lt)
    replace E := Lib.hid (bstep E.out B)
    clear B
    go_wp2_with fail
    refine (tn _ E.out).mono ?_
    rintro e w13 ⟨u9, rfl, R1, B⟩
    replace O4 := Lib.hid (O4.out.up B O4.out.lt)
    replace O8 := Lib.hid (O8.out.up B O8.out.lt)
    replace E := Lib.hid (bstep E.out B)
    have R1 := Lib.hid R1
    clear B
    go_wp2_with fail
    refine (iorder_any _ N _ R1.out.read).mono ?_
    rintro e w14 ⟨g9, v9, S'', hg9, rfl, O9, hS9, _, B⟩
    rw [hS9.det hS4.out] at O9
    have O9 := Lib.hid O9
    replace O4 := Lib.hid (O4.out.up B O4.out.lt)
    replace O8 := Lib.hid (O8.out.up B O8.out.lt)
    replace E := Lib.hid (bstep E.out B)
    clear B R1 hS9
    go_wp2_with fail
    refine (eqP_any _ _ S _ O9.out.read O4.out.read).mono ?_
    rintro e w15 ⟨rfl, B⟩
    replace O8 := Lib.hid (O8.out.up B O8.out.lt)
    replace E := Lib.hid (bstep E.out B)
    clear B O9 O4
    go_wp2_with fail
    refine (heldP_any _ 1 M11 _ hMk.out O8.out.read (by omega) (by omega)).mono ?_
    rw [hM.out, hns.out]
    rintro e w16 ⟨rfl, B⟩
    replace E := Lib.hid (bstep E.out B)
    have D2 := Lib.hid (bstep D.out E.out)
    clear B
    go_wp2_with fail
    go_ret
    exact ⟨rfl, D2.out⟩
end Go.Proofs.Ytbklkhndjckckaa

/- A reader is opened; codes that came in. -/
namespace Go.Proofs.Ytbklkhndjckckaa
open Go.RowKit
set_option linter.unusedVariables false

/-- A code that came in: its bytes lie in old memory. -/
def CodeIn (w : World) (a : Option Addr) (len cap : Nat) : Prop := len ≤ cap ∧ Bytes w w.heap.size a len

/-- What l6Open leaves. -/
def OpenPost (w : World) (e : Ending) (w' : World) : Prop :=
  ∃ r : Nat, e = .returned (.pointer (some ⟨r, 0, none⟩)) ∧ w.heap.size ≤ r ∧ Rd w' r 0 ∧ Below w.heap.size w w'

theorem rd_new (w : World) (a : Option Addr) (len cap : Nat) (hl : len ≤ 2000) (hb : Bytes w w.heap.size a len) (t : TypeId) : Rd (w.alloc (.cells #[.slice a len cap, .int .i64 0] t)) w.heap.size 0 :=
  ⟨a, len, cap, 0, by go_simp, by go_simp, by go_simp, Int.le_refl _, by omega, hl, by simp, hb.kept (fun k hk => Below.heap_alloc _ _ _ hk)⟩

theorem open_any (a : Option Addr) (len cap : Nat) (w : World) (hc : CodeIn w a len cap) (hcap : cap ≤ maxLen) :
    Calls Try.prog 31 #[.slice a len cap] w (OpenPost w) := by
  unfold maxLen at hcap
  obtain ⟨hlc, hb⟩ := hc
  by_cases hl : 2000 < len
  · have hb2 : Bytes w w.heap.size a 2000 := by
      rcases hb with rfl | ⟨b, off, e, hb, hc⟩
      · omega
      · exact .inr ⟨b, off, e, hb, fun i hi => hc i (by omega)⟩
    obtain ⟨b, off, rfl, _⟩ : ∃ b off, a = some ⟨b, off, none⟩ ∧ True := by
      rcases hb with rfl | ⟨b, off, e, hb, hc⟩
      · omega
      · exact ⟨b, off, e, trivial⟩
    have hn := Lib.hid (rd_new w (some ⟨b, off, none⟩) 2000 cap (Nat.le_refl _) hb2 84)
    clear hb hb2
    go_enter Try.func31, Try.ntmps31
    go_wp2_with fail
    go_ret
    exact ⟨_, rfl, Nat.le_refl _, hn.out, (Below.refl _ _).alloc (Nat.le_refl _) _⟩
  · have hn := Lib.hid (rd_new w a len cap (by omega) hb 84)
    clear hb
    go_enter Try.func31, Try.ntmps31
    go_wp2_with fail
    go_ret
    exact ⟨_, rfl, Nat.le_refl _, hn.out, (Below.refl _ _).alloc (Nat.le_refl _) _⟩

theorem Bytes.up {w w' : World} {r r' : Nat} {a : Option Addr} {len : Nat} (h : Bytes w r a len) (hr : r ≤ r') (hb : Below r w w') : Bytes w' r' a len := by
  rcases h.kept (w' := w') (fun k hk => hb.block k hk) with h | ⟨b, off, e, hb, hc⟩
  · exact .inl h
  · exact .inr ⟨b, off, e, by omega, hc⟩

/-- A code is a code still where elder memory is as it was. -/
theorem CodeIn.up {w w' : World} {a : Option Addr} {len cap : Nat} (h : CodeIn w a len cap) (hb : Below w.heap.size w w') : CodeIn w' a len cap :=
  ⟨h.1, h.2.up hb.size hb⟩
theorem row_keep {w w' : World} {r base n size : Nat} {t : TypeId} {v : Value} {xs : List Value} (h : w.ownsRow base t size v n xs) (hk : Keep w.heap.size r w w') (hr : r < base) : w'.ownsRow base t size v n xs :=
  h.kept (row := some r) ⟨hk.os, hk.tape, hk.output, hk.size, fun k h1 h2 => hk.block k h1 (fun e => h2 (by rw [e]))⟩ (by
    cases hv : v.ownBlock with
    | none => exact .inl rfl
    | some k =>
      have := (h.lt k hv).1
      exact .inr (by intro e; injection e with e; omega))
end Go.Proofs.Ytbklkhndjckckaa

/- What the frames of all proofs use: the program's own knob, the layout, a code that came in. -/
namespace Go.Proofs.Ytbklkhndjckckaa
open Go.ChangeShapes Go.WideShapes Go.ChangeAt Go.RowKit Go.Joins
set_option linter.unusedVariables false

theorem own : ownKnob Try.prog.godebug = none := by kernel_rfl
theorem laidOut : laidOutB Try.prog = true := by kernel_rfl
theorem cells_lawsId : Try.prog.cellsOf 44 = 2 := by kernel_rfl

theorem code_of_row {w : World} {x : Addr} {len cap : Nat} {zs : List Int} (hl : len ≤ cap) (hz : zs.length = cap) (hcell : ∀ i, i < zs.length → w.cell? (x.add i) = some (.int .u8 (zs.getD i 0))) (hwz : ∀ n ∈ zs, (Lit.int .u8 n).wf = true) :
    CodeIn w (some x) len cap := by
  refine ⟨hl, ?_⟩
  by_cases h0 : len = 0
  · exact .inl h0
  · obtain ⟨b, off, spot⟩ := x
    have hc := hcell 0 (by omega)
    have hspot : spot = none := by simpa [Addr.add] using World.cell?_spot hc
    subst hspot
    refine .inr ⟨b, off, rfl, ?_, fun i hi => ?_⟩
    · have := World.block_lt_of_cell? w _ hc
      simpa [Addr.add] using this
    · have h1 := hcell i (by omega)
      have h2 : (Lit.int .u8 (zs.getD i 0)).wf = true := by
        rw [List.getD_eq_getElem?_getD, List.getElem?_eq_getElem (by omega)]
        exact hwz _ (List.getElem_mem _)
      have h3 : 0 ≤ zs.getD i 0 ∧ zs.getD i 0 ≤ 255 := by simpa [Lit.wf, IntKind.min, IntKind.max, IntKind.signed, IntKind.bits] using h2
      exact ⟨zs.getD i 0, h3.1, h3.2, by
        have e : (⟨b, off, none⟩ : Addr).add i = ⟨b, off + i, none⟩ := by unfold Addr.add; split <;> simp_all
        rw [e] at h1; exact h1⟩
end Go.Proofs.Ytbklkhndjckckaa
