/- Draws of commands' texts. -/
import Derived.Test.YthdofjfjefcfpaaDoorLawD
import Derived.Test.YthdofjfjefcfpaaDoorDraw
namespace Go.Proofs.YthdofjfjefcfpaaDoor
open Go.RowKit
set_option linter.unusedVariables false
set_option maxRecDepth 100000

/-- What DrawCommandText leaves: a command. -/
def OnePost (w : World) (e : Ending) (w' : World) : Prop :=
  ∃ k key v : Int, e = .returned (.agg #[.int .i64 k, .int .i64 key, .int .i64 v]) ∧ Below w.heap.size w w'

set_option maxHeartbeats 1000000 in
theorem one_any (a : Option Addr) (len cap : Nat) (w : World) (hc : CodeIn w a len cap) (hcap : cap ≤ maxLen) :
    Calls Tryd.prog 7 #[.slice a len cap] w (OnePost w) := by
  have hc1 := Lib.hid hc
  have hcap1 := Lib.hid hcap
  clear hc hcap
  go_enter Tryd.func7, Tryd.ntmps7
  go_wp2_with fail
  refine (open_any a len cap _ (hc1.out.up ((Below.refl _ _).alloc (Nat.le_refl _) _)) hcap1.out).mono ?_
  rintro e w1 ⟨r, rfl, hr0', hr', hb'⟩
  have hr0 : w.heap.size + 1 ≤ r := by simpa using hr0'
  have A1 := Lib.hid ((hb'.block w.heap.size (by simp)).trans (heap_alloc_new w _))
  have D1 := Lib.hid (((Below.refl w.heap.size w).alloc (Nat.le_refl _) (.cells #[.int .i64 0, .int .i64 0, .int .i64 0] 24)).trans (hb'.mono (by simp)))
  have s1 : w.heap.size + 1 ≤ w1.heap.size := by simpa using hb'.size
  have hr1 := Lib.hid hr'
  clear hr0' hr' hb' hc1 hcap1
  go_wp2_with fail
  refine (cmd_any r 0 _ hr1.out (by omega)).mono ?_
  rintro e w2 ⟨k, key, v, rfl, _, _, _, hr2, hk2⟩
  obtain ⟨a1, a2, a3, f1, f2, f3⟩ := blk3 ((hk2.block w.heap.size (by omega) (by omega)).trans A1.out)
  have D2 := Lib.hid (D1.out.trans ((hk2.mono (by omega)).below (by omega)))
  clear hr2 hk2 hr1 A1 D1
  go_wp2_with fail
  exact bodyPost_ret (v := .agg #[.int .i64 k, .int .i64 key, .int .i64 v]) (by simp [results, Tryd.results7, go_sem, a1, a2, a3]) rfl ⟨k, key, v, rfl, by have X := D2.out; clear D2; repeat (first | with_reducible exact X | with_reducible refine Below.setCell ?_ (by simp) _)⟩

/-- What 'of' leaves. -/
def OfPost (r n : Nat) (ws : List ByteArray) (w : World) (e : Ending) (w' : World) : Prop :=
  ∃ x, x ∈ ws ∧ e = .returned (.string x) ∧ Rd w' r (n + 1) ∧ Keep w.heap.size r w w'

theorem of_any (r n b : Nat) (ws : List ByteArray) (w : World) (hrd : Rd w r n) (hn : n ≤ 900000000) (hne : 1 ≤ ws.length) (hl : ws.length ≤ 1000) (hb : r < b) (hw : Ws w b ws) :
    Calls Tryd.prog 23 #[.pointer (some ⟨r, 0, none⟩), .slice (some ⟨b, 0, none⟩) ws.length ws.length] w (OfPost r n ws w) := by
  have hrd := Lib.hid hrd
  have hw := Lib.hid hw
  generalize hln : ws.length = l at hne hl
  have hln := Lib.hid hln
  go_enter Tryd.func23, Tryd.ntmps23
  go_wp2_with fail
  refine (pick_any l r n _ hrd.out (by omega)).mono ?_
  rintro e w1 ⟨x, rfl, h0, h1, hr1, hk1⟩
  have h1 := h1 (by omega)
  obtain ⟨j, rfl⟩ := Int.eq_ofNat_of_zero_le h0
  have hj : j < ws.length := by rw [hln.out]; omega
  have hcell : w1.cell? ⟨b, j, none⟩ = some (.string ws[j]) := by
    rw [(kcell hk1).1 b j hb hw.out.1]
    exact hw.out.at j _ (List.getElem?_eq_getElem hj)
  have hr1 := Lib.hid hr1
  have hk1 := Lib.hid hk1
  have hm : Hid (ws[j] ∈ ws) := Lib.hid (List.getElem_mem hj)
  generalize ws[j] = x at hcell hm
  clear hrd hw hj
  go_wp2_with fail
  go_ret
  exact ⟨x, hm.out, rfl, hr1.out, hk1.out⟩

/-- What DrawCommandFrom leaves: a short text. -/
def TextPost (w : World) (e : Ending) (w' : World) : Prop := ∃ s : ByteArray, s.size ≤ 20 ∧ e = .returned (.string s) ∧ Below w.heap.size w w'

def drawWords : List ByteArray := [⟨#[]⟩, ⟨#[110, 111, 110, 101, 32]⟩, ⟨#[114, 101, 97, 100]⟩, ⟨#[114, 101, 97, 100, 32, 48, 54]⟩, ⟨#[112, 117, 116, 32, 49]⟩, ⟨#[97, 100, 100, 32, 49, 32, 49, 48, 48]⟩, ⟨#[112, 117, 116, 32, 49, 32, 50, 32, 51]⟩, ⟨#[114, 101, 97, 100, 32, 55]⟩, ⟨#[32, 110, 111, 110, 101]⟩, ⟨#[119, 114, 105, 116, 101, 32, 49, 32, 50]⟩]
theorem drawWords_size : ∀ x ∈ drawWords, x.size ≤ 20 := by decide
theorem txt_size' (k key v : Int) : (txt k key v).size ≤ 20 := by
  by_cases h : cvB k key v = true
  · exact txt_size h
  · unfold txt; rw [if_neg h]; decide

set_option maxHeartbeats 2000000 in
theorem drawText_any (a : Option Addr) (len cap : Nat) (w : World) (hc : CodeIn w a len cap) (hcap : cap ≤ maxLen) :
    Calls Tryd.prog 11 #[.slice a len cap] w (TextPost w) := by
  have hc1 := Lib.hid hc
  have hcap1 := Lib.hid hcap
  clear hc hcap
  go_enter Tryd.func11, Tryd.ntmps11
  go_wp2_with fail
  refine (open_any a len cap _ hc1.out hcap1.out).mono ?_
  rintro e w1 ⟨r, rfl, hr0, hr', D1'⟩
  have hr1 := Lib.hid hr'
  have D1 := Lib.hid D1'
  clear hr' D1' hc1 hcap1
  go_wp2_with fail
  refine (cmd_any r 0 _ hr1.out (by omega)).mono ?_
  rintro e w2 ⟨k, key, v, rfl, _, _, _, hr2, hk2⟩
  have D2 := Lib.hid (D1.out.trans ((hk2.mono D1.out.size).below hr0))
  have hr2 := Lib.hid hr2
  clear hk2 hr1 D1
  go_wp2_with fail
  refine (stext_any k key v _).mono ?_
  rintro e w3 ⟨rfl, hb3⟩
  have D3 := Lib.hid (D2.out.trans (hb3.mono D2.out.size))
  have hr3 := Lib.hid (hr2.out.kept (hb3.mono (by have := hr2.out.lt; omega)))
  have hsz := Lib.hid (txt_size' k key v)
  clear hb3 D2 hr2
  by_cases he : txt k key v = ⟨#[]⟩
  · have q0 : (txt k key v).toList = [] := by rw [he, ByteArray.toList_eq]
    have q0' : (txt k key v).toList.isEmpty = true := by simp [q0]
    generalize txt k key v = t at q0 q0' ⊢
    go_wp2_with fail
    refine (of_any r 6 w3.heap.size drawWords _ (hr3.out.alloc _) (by omega) (by decide) (by decide) hr3.out.lt ⟨by simp, _, heap_alloc_new w3 _⟩).mono ?_
    rintro e w5 ⟨x, hx, rfl, hr5, hk5⟩
    have D5 := Lib.hid ((D3.out.alloc D3.out.size _).trans ((hk5.mono (by have := D3.out.size; simp; omega)).below hr0))
    have hx := Lib.hid (drawWords_size x hx)
    clear hr5 hk5
    go_wp2_with fail
    go_ret
    exact ⟨x, hx.out, rfl, D5.out⟩
  · have q0 : ((txt k key v).toList == []) = false := lit_ne (l := []) he
    have q1 : ¬ (txt k key v).toList = [] := by rw [ByteArray.toList_eq]; exact fun h => he (bytes_ext (by simpa using h))
    have q2 : (txt k key v).toList.isEmpty = false := by simpa using q1
    generalize txt k key v = t at q0 q1 q2 hsz ⊢
    go_wp2_with fail
    refine (pick_any 6 r 6 _ hr3.out (by omega)).mono ?_
    rintro e w4 ⟨y, rfl, y0, y1, hr4, hk4⟩
    have y1 := y1 (by omega)
    have D4 := Lib.hid (D3.out.trans ((hk4.mono D3.out.size).below hr0))
    have hr4 := Lib.hid hr4
    clear hk4 D3 hr3
    by_cases hy : y = 0
    · subst hy
      go_wp2_with fail
      refine (of_any r 7 w4.heap.size drawWords _ (hr4.out.alloc _) (by omega) (by decide) (by decide) hr4.out.lt ⟨by simp, _, heap_alloc_new w4 _⟩).mono ?_
      rintro e w5 ⟨x, hx, rfl, hr5, hk5⟩
      have D5 := Lib.hid ((D4.out.alloc D4.out.size _).trans ((hk5.mono (by have := D4.out.size; simp; omega)).below hr0))
      have hx := Lib.hid (drawWords_size x hx)
      clear hr5 hk5
      go_wp2_with fail
      go_ret
      exact ⟨x, hx.out, rfl, D5.out⟩
    · have hy' : (y == 0) = false := by simpa using hy
      go_wp2_with fail
      go_ret
      exact ⟨t, hsz.out, rfl, D4.out⟩
end Go.Proofs.YthdofjfjefcfpaaDoor
