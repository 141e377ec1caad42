/- Draws of texts: of, DrawIdFrom. -/
import Derived.Test.YtoepimmkebbgcaaDoorDidt
namespace Go.Proofs.YtoepimmkebbgcaaDoor
open Go.RowKit
set_option linter.unusedVariables false
set_option maxRecDepth 100000

theorem lit_neW {a : ByteArray} {l : List UInt8} (h : ¬ a = ⟨l.toArray⟩) : (a.toList == l) = false := by
  have := bytes_ne h
  rwa [ByteArray.toList_mk l] at this

/-- A block of words. -/
def Wd (w : World) (b : Nat) (ws : List ByteArray) : Prop := b < w.heap.size ∧ ∃ t, w.heap[b]? = some (.cells (ws.map Value.string).toArray t (0, 0))
theorem Wd.at {w : World} {b : Nat} {ws : List ByteArray} (h : Wd w b ws) (i : Nat) (x : ByteArray) (hx : ws[i]? = some x) : w.cell? ⟨b, i, none⟩ = some (.string x) := by
  obtain ⟨_, t, h⟩ := h
  simp [World.cell?, h, hx]

/-- What 'of' leaves. -/
def OfPostW (r n : Nat) (ws : List ByteArray) (w : World) (e : Ending) (w' : World) : Prop :=
  ∃ x, x ∈ ws ∧ e = .returned (.string x) ∧ Rd w' r (n + 1) ∧ Keep w.heap.size r w w'

theorem ofW_any (r n b : Nat) (ws : List ByteArray) (w : World) (hrd : Rd w r n) (hn : n ≤ 900000000) (hne : 1 ≤ ws.length) (hl : ws.length ≤ 1000) (hb : r < b) (hw : Wd w b ws) :
    Calls Tryd.prog 26 #[.pointer (some ⟨r, 0, none⟩), .slice (some ⟨b, 0, none⟩) ws.length ws.length] w (OfPostW r n ws w) := by
  have hrd := Lib.hid hrd
  have hw := Lib.hid hw
  generalize hln : ws.length = l at hne hl
  have hln := Lib.hid hln
  go_enter Tryd.func26, Tryd.ntmps26
  go_wp2_with fail
  refine (pick_any l r n _ hrd.out (by omega)).mono ?_
  rintro e w1 ⟨x, rfl, h0, h1, hr1, hk1⟩
  have h1 := h1 (by omega)
  obtain ⟨j, rfl⟩ := Int.eq_ofNat_of_zero_le h0
  have hj : j < ws.length := by rw [hln.out]; omega
  have hcell : w1.cell? ⟨b, j, none⟩ = some (.string ws[j]) := by
    rw [(kcell hk1).1 b j hb hw.out.1]
    exact hw.out.at j _ (List.getElem?_eq_getElem hj)
  have hr1 := Lib.hid hr1
  have hk1 := Lib.hid hk1
  have hm : Hid (ws[j] ∈ ws) := Lib.hid (List.getElem_mem hj)
  generalize ws[j] = x at hcell hm
  clear hrd hw hj
  go_wp2_with fail
  go_ret
  exact ⟨x, hm.out, rfl, hr1.out, hk1.out⟩

/-- What DrawIdFrom leaves: a short text. -/
def TextPost (w : World) (e : Ending) (w' : World) : Prop := ∃ s : ByteArray, s.size ≤ 20 ∧ e = .returned (.string s) ∧ Below w.heap.size w w'

def drawWords : List ByteArray := [⟨#[]⟩, ⟨#[49]⟩, ⟨#[49, 46]⟩, ⟨#[49, 46, 48, 49]⟩, ⟨#[53, 46, 49]⟩, ⟨#[49, 44, 49]⟩, ⟨#[48, 46, 48]⟩, ⟨#[48, 46, 53, 49]⟩, ⟨#[49, 48, 46, 49]⟩, ⟨#[52, 46, 53, 48]⟩]
theorem drawWords_size : ∀ x ∈ drawWords, x.size ≤ 20 := by decide
theorem idTx_size (r n : Int) : (idTx r n).size ≤ 20 := by
  by_cases h : idB r n = true
  · obtain ⟨p, q, rfl, rfl, h1, h2, h3⟩ := idB_nat h
    rw [idTx_yes h]
    have := (txI_ne p h1 q h3).2
    simp only [Int.toNat_natCast]; omega
  · rw [idTx_no (by simpa using h)]; decide

set_option maxHeartbeats 2000000 in
theorem drawText_any (a : Option Addr) (len cap : Nat) (w : World) (hc : CodeIn w a len cap) (hcap : cap ≤ maxLen) :
    Calls Tryd.prog 12 #[.slice a len cap] w (TextPost w) := by
  have hc1 := Lib.hid hc
  have hcap1 := Lib.hid hcap
  clear hc hcap
  go_enter Tryd.func12, Tryd.ntmps12
  go_wp2_with fail
  refine (open_any a len cap _ hc1.out hcap1.out).mono ?_
  rintro e w1 ⟨r, rfl, hr0, hr', D1'⟩
  have hr1 := Lib.hid hr'
  have D1 := Lib.hid D1'
  clear hr' D1' hc1 hcap1
  go_wp2_with fail
  refine (idd_any r 0 _ hr1.out (by omega)).mono ?_
  rintro e w2 ⟨k, v, rfl, _, _, hr2, hk2⟩
  have D2 := Lib.hid (D1.out.trans ((hk2.mono D1.out.size).below hr0))
  have hr2 := Lib.hid hr2
  clear hk2 hr1 D1
  go_wp2_with fail
  refine (sidt_any k v _).mono ?_
  rintro e w3 ⟨rfl, hb3⟩
  have D3 := Lib.hid (D2.out.trans (hb3.mono D2.out.size))
  have hr3 := Lib.hid (hr2.out.kept (hb3.mono (by have := hr2.out.lt; omega)))
  have hsz := Lib.hid (idTx_size k v)
  clear hb3 D2 hr2
  by_cases he : idTx k v = ⟨#[]⟩
  · have q0 : (idTx k v).toList = [] := by rw [he, ByteArray.toList_eq]
    have q0' : (idTx k v).toList.isEmpty = true := by simp [q0]
    generalize idTx k v = t at q0 q0' ⊢
    go_wp2_with fail
    refine (ofW_any r 4 w3.heap.size drawWords _ (hr3.out.alloc _) (by omega) (by decide) (by decide) hr3.out.lt ⟨by simp, _, heap_alloc_new w3 _⟩).mono ?_
    rintro e w5 ⟨x, hx, rfl, hr5, hk5⟩
    have D5 := Lib.hid ((D3.out.alloc D3.out.size _).trans ((hk5.mono (by have := D3.out.size; simp; omega)).below hr0))
    have hx := Lib.hid (drawWords_size x hx)
    clear hr5 hk5
    go_wp2_with fail
    go_ret
    exact ⟨x, hx.out, rfl, D5.out⟩
  · have q0 : ((idTx k v).toList == []) = false := lit_neW (l := []) he
    have q1 : ¬ (idTx k v).toList = [] := by rw [ByteArray.toList_eq]; exact fun h => he (bytes_ext (by simpa using h))
    have q2 : (idTx k v).toList.isEmpty = false := by simpa using q1
    generalize idTx k v = t at q0 q1 q2 hsz ⊢
    go_wp2_with fail
    refine (pick_any 5 r 4 _ hr3.out (by omega)).mono ?_
    rintro e w4 ⟨y, rfl, y0, y1, hr4, hk4⟩
    have y1 := y1 (by omega)
    have D4 := Lib.hid (D3.out.trans ((hk4.mono D3.out.size).below hr0))
    have hr4 := Lib.hid hr4
    clear hk4 D3 hr3
    by_cases hy : y = 0
    · subst hy
      go_wp2_with fail
      refine (ofW_any r 5 w4.heap.size drawWords _ (hr4.out.alloc _) (by omega) (by decide) (by decide) hr4.out.lt ⟨by simp, _, heap_alloc_new w4 _⟩).mono ?_
      rintro e w5 ⟨x, hx, rfl, hr5, hk5⟩
      have D5 := Lib.hid ((D4.out.alloc D4.out.size _).trans ((hk5.mono (by have := D4.out.size; simp; omega)).below hr0))
      have hx := Lib.hid (drawWords_size x hx)
      clear hr5 hk5
      go_wp2_with fail
      go_ret
      exact ⟨x, hx.out, rfl, D5.out⟩
    · have hy' : (y == 0) = false := by simpa using hy
      go_wp2_with fail
      go_ret
      exact ⟨t, hsz.out, rfl, D4.out⟩
end Go.Proofs.YtoepimmkebbgcaaDoor
