/- The program's latest and DepsLatest. -/
import Derived.Test.YtbhjglapfiegaaaDoorLatm
import Derived.Test.YtbhjglapfiegaaaDoorIdso
import Derived.Test.YtbhjglapfiegaaaDoorSsort
import Derived.Test.YtbhjglapfiegaaaDoorShelf
namespace Go.Proofs.YtbhjglapfiegaaaDoor
open Go.RowKit
set_option linter.unusedVariables false

def latU (f : Nat → Nat) (r : Nat) : Nat → Nat := fun i => if i < r then latF f i else 0
theorem latU_five (f : Nat → Nat) {w : World} {b : Nat} (h : Set5 w b (latU f 5)) : Set5 w b (latF f) := h
theorem lat_res (tm : Array Value) (w : World) (b : Nat) (g : Nat → Nat) (h2 : tm[2]? = some (.pointer (some ⟨b, 0, none⟩))) (h : Set5 w b g) :
    (results Tryd.f39 tm).run Tryd.prog w = .ok (setV g) w := by
  obtain ⟨t0, t1, t2, t3, t4⟩ := h.five
  simp [results, Tryd.results39, go_sem, setV, h2, t0, t1, t2, t3, t4]
theorem two_pow_u64 (n : Nat) (h : n < 64) : IntKind.u64.wrap ((2 : Int) ^ n) = (2 : Int) ^ n := by
  have := one_shl n h
  rw [Int.one_mul, show ((2 ^ n : Nat) : Int) = (2 : Int) ^ n from Int.natCast_pow 2 n] at this; exact this

theorem len_any (m : Nat) (w : World) (h : m < 18446744073709551616) :
    Calls Tryd.prog 51 #[.int .u64 m] w fun e w' => e = .returned (.int .i64 (Lib.bitLen m)) ∧ w = w' := by
  refine (Tryd.bits_Len64 (m : Int) w (by omega) (by omega)).mono fun e w' h => ⟨?_, h.2.symm⟩
  rw [h.1, Int.toNat_natCast]

set_option maxHeartbeats 4000000 in
theorem lat_any (f : Nat → Nat) (w : World) (hf : ∀ r, f r < 2251799813685248) :
    Calls Tryd.prog 39 #[setV f] w fun e w' => e = .returned (setV (latF f)) ∧ Below w.heap.size w w' := by
  have ki : ∀ (r : Nat), r < 5 → ∀ w : World, (Instr.index 47 (.agg #[.int .u64 (f 0), .int .u64 (f 1), .int .u64 (f 2), .int .u64 (f 3), .int .u64 (f 4)]) (.int .i64 r)).run Tryd.prog w = .ok (.int .u64 (f r)) w := by
    intro r hr w
    rcases (show r = 0 ∨ r = 1 ∨ r = 2 ∨ r = 3 ∨ r = 4 by omega) with rfl | rfl | rfl | rfl | rfl
    · exact sx_i0 _ _ _ _ _ w
    · exact sx_i1 _ _ _ _ _ w
    · exact sx_i2 _ _ _ _ _ w
    · exact sx_i3 _ _ _ _ _ w
    · exact sx_i4 _ _ _ _ _ w
  have ki := Lib.hid ki
  have hf := Lib.hid hf
  obtain ⟨G, hG⟩ : ∃ G, Hid (G = latF f) := ⟨_, Lib.hid rfl⟩
  rw [← hG.out]
  unfold setV
  go_enter Tryd.func39, Tryd.ntmps39
  go_wp2_with fail
  go_loopw [7] (fun i wr => ∃ r : Nat, r ≤ 5 ∧ i = .int .i64 r ∧ Hid (Set5 wr (w.heap.size + 1) fun _ => 0) ∧ Hid (Set5 wr (w.heap.size + 1 + 1) (latU f r)) ∧ Hid (Below w.heap.size w wr)) (fun i _ => 5 - (intOf i).toNat)
  case atStart => exact ⟨0, Nat.zero_le _, rfl, Lib.hid ((Below.heap_alloc _ _ _ (by simp)).trans (heap_alloc_at _ _ _ (by simp))), Lib.hid (heap_alloc_at _ _ _ (by simp)), Lib.hid ((((Below.refl _ _).alloc (Nat.le_refl _) _).alloc (by simp) _).alloc (by simp; omega) _)⟩
  case round =>
    obtain ⟨r, hr, rfl, hZ, hS, hD⟩ := hrel
    by_cases hlt : r < 5
    · have kk := ki.out r hlt
      have hfr := hf.out r
      by_cases hm0 : f r = 0
      · have hm0n : (((f r : Nat) : Int) != 0) = false := by simpa using hm0
        have hS' : Hid (Set5 wr (w.heap.size + 1 + 1) (latU f (r + 1))) := Lib.hid (by
          rw [show latU f (r + 1) = latU f r from ?_]; exact hS.out
          funext i
          unfold latU
          by_cases h1 : i < r
          · rw [if_pos h1, if_pos (by omega)]
          · rw [if_neg h1]
            by_cases h2 : i = r
            · subst h2
              rw [if_pos (by omega)]
              unfold latF; rw [hm0]; rfl
            · rw [if_neg (by omega)])
        clear hfr hS hm0 kk
        go_wp2_with fail
        go_roundw
        case rel => exact ⟨r + 1, by omega, by go_num, hZ, hS', hD⟩
        case measure => simp [intOf]; omega
      · have hm0n : (((f r : Nat) : Int) != 0) = true := by simpa using hm0
        obtain ⟨h1, h2, _, _⟩ := high_bit hm0 (by omega)
        have sl := fun w => len_any (f r) w (by omega)
        have hval : latF f r = 2 ^ (Lib.bitLen (f r) - 1) := by unfold latF latN; rw [if_neg hm0]
        generalize Lib.bitLen (f r) = L at sl h1 h2 hval
        obtain ⟨l, rfl⟩ : ∃ l, L = l + 1 := ⟨L - 1, by omega⟩
        rw [Nat.add_sub_cancel] at hval
        have wl : IntKind.i64.wrap ((l : Int) + 1 - 1) = (l : Int) := by rw [show (l : Int) + 1 - 1 = l by omega]; exact IntWalk.i64_in _ (by omega)
        have l0 : (0 : Int) ≤ (l : Int) := by omega
        have l1 : (l : Int) ≤ 64 := by omega
        have sh := two_pow_u64 l (by omega)
        have ep : ((2 ^ l : Nat) : Int) = (2 : Int) ^ l := Int.natCast_pow 2 l
        have hput : Hid (Set5 (wr.setCell ⟨w.heap.size + 1 + 1, r, none⟩ (.int .u64 ((2 : Int) ^ l))) (w.heap.size + 1 + 1) (latU f (r + 1))) := Lib.hid (by
          have := hS.out.put (r := r) (x := 2 ^ l) (g := latU f (r + 1)) hlt (by unfold latU; rw [if_pos (by omega)]; exact hval) (fun i hi hne => by
            unfold latU
            by_cases h1 : i < r
            · rw [if_pos h1, if_pos (by omega)]
            · rw [if_neg h1, if_neg (by omega)])
          rw [ep] at this; exact this)
        have hZ' := Lib.hid (Set5.other hZ.out (w.heap.size + 1 + 1) r (.int .u64 ((2 : Int) ^ l)) (by omega))
        have c0 := hS.out.cell hlt
        have f0 := hS.out.free r
        clear hval hfr hm0 ep hS hZ kk
        go_wp2_with fail
        refine (sl _).mono ?_
        rintro e w3 ⟨rfl, rfl⟩
        clear sl
        go_wp2_with fail
        go_roundw
        case rel => exact ⟨r + 1, by omega, by go_num, hZ', hput, Lib.hid (hD.out.setCell (by show _ ≤ w.heap.size + 1 + 1; omega) _)⟩
        case measure => simp [intOf]; omega
    · obtain rfl : r = 5 := by omega
      have hS' := hS.out
      obtain ⟨s0, s1, s2, s3, s4⟩ := hS'.five
      obtain ⟨t0, t1, t2, t3, t4⟩ := hZ.out.five
      have hz := hZ.out.free
      have f0 := hz 0; have f1 := hz 1; have f2 := hz 2; have f3 := hz 3; have f4 := hz 4
      have e0 : latU f 5 0 = G 0 := by rw [hG.out]; rfl
      have e1 : latU f 5 1 = G 1 := by rw [hG.out]; rfl
      have e2 : latU f 5 2 = G 2 := by rw [hG.out]; rfl
      have e3 : latU f 5 3 = G 3 := by rw [hG.out]; rfl
      have e4 : latU f 5 4 = G 4 := by rw [hG.out]; rfl
      rw [e0] at s0; rw [e1] at s1; rw [e2] at s2; rw [e3] at s3; rw [e4] at s4
      have T3 := Lib.hid (hZ.out.fill G)
      clear hz e0 e1 e2 e3 e4 hS hS' hG ki hf
      go_wp2_with fail
      exact bodyPost_ret (lat_res _ _ (w.heap.size + 1) _ rfl T3.out) rfl ⟨rfl, (((((hD.out.setCell (Nat.le_succ _) _).setCell (Nat.le_succ _) _).setCell (Nat.le_succ _) _).setCell (Nat.le_succ _) _).setCell (Nat.le_succ _) _)⟩

/-- What DepsLatest leaves. -/
def LatPost (R : List Pid) (w : World) (e : Ending) (w' : World) : Prop :=
  ∃ b u, w.heap.size ≤ b ∧ e = .returned u ∧ OwnP w' b u R ∧ Below w.heap.size w w'

set_option maxHeartbeats 2000000 in
theorem dlat_any (u : Value) (A : List Pid) (w : World) (h : Ids w u A) (hT : TabIn w) :
    Calls Tryd.prog 21 #[u] w (LatPost (latR A) w) := by
  have h := Lib.hid h
  have hT := Lib.hid hT
  have sl := fun w => lat_any (setF A) w (setF_lt A)
  have si := fun w h => idso_any (latF (setF A)) w (fun r => latN_lt (setF_lt A r)) h
  have hval : Hid (srtB A = true → idsO (latF (setF A)) = lastP A) := Lib.hid idsO_lat
  obtain ⟨f, hf⟩ : ∃ f, Hid (setF A = f) := ⟨_, Lib.hid rfl⟩
  rw [hf.out] at sl si hval
  generalize latF f = g at sl si hval
  obtain ⟨q, hq⟩ : ∃ q, Hid (srtB A = q) := ⟨_, Lib.hid rfl⟩
  obtain ⟨S, hR⟩ : ∃ S, Hid (latR A = S) := ⟨_, Lib.hid rfl⟩
  rw [hR.out]
  unfold setV at sl si
  go_enter Tryd.func21, Tryd.ntmps21
  go_wp2_with fail
  refine (iset_any u A _ h.out).mono ?_
  rintro e w1 ⟨rfl, hb⟩
  rw [hf.out, hq.out]
  have D1 := Lib.hid (hb.alloc hb.size (.cells #[.int .u64 (f 0), .int .u64 (f 1), .int .u64 (f 2), .int .u64 (f 3), .int .u64 (f 4)] 47))
  have s1 := hb.size
  clear hb h
  unfold setV
  cases q
  · have hR2 := hR.out
    rw [latR_f hq.out] at hR2
    subst hR2
    have N1 := Lib.hid (ownP_nil (w1.alloc (.cells #[.int .u64 (f 0), .int .u64 (f 1), .int .u64 (f 2), .int .u64 (f 3), .int .u64 (f 4)] 47)) 31)
    clear sl si hval
    go_wp2_with fail
    go_ret
    exact ⟨w1.heap.size + 1, _, by omega, rfl, by simpa using N1.out, D1.out.alloc D1.out.size _⟩
  · have hv := hval.out hq.out
    have hR2 := hR.out
    rw [latR_t hq.out] at hR2
    rw [hR2] at hv
    have hv := Lib.hid hv
    clear hval hR2
    go_wp2_with fail
    refine (sl _).mono ?_
    rintro e w2 ⟨rfl, hb⟩
    have D2 := Lib.hid (bstep D1.out hb)
    clear hb D1 sl
    go_wp2_with fail
    refine (si _ (hT.out.up D2.out (Nat.le_refl _))).mono ?_
    rintro e w3 ⟨b, v, hbb, rfl, hO, hb⟩
    have hbb2 := Nat.le_trans D2.out.size hbb
    have D3 := Lib.hid (bstep D2.out hb)
    rw [hv.out] at hO
    have hO := Lib.hid hO
    clear hb D2 si
    go_wp2_with fail
    go_ret
    exact ⟨b, _, hbb2, rfl, hO.out, D3.out⟩
end Go.Proofs.YtbhjglapfiegaaaDoor
