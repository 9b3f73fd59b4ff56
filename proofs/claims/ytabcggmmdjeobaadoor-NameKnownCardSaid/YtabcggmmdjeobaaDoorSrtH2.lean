/-
  Sorting: the heap sort (slices.heapSortCmpFunc at string).
-/
import Derived.Test.YtabcggmmdjeobaaDoorSrtH1
namespace Go.Proofs.YtabcggmmdjeobaaDoor.srt
set_option linter.unusedVariables false
set_option linter.unusedSimpArgs false
open Go.RowKit
open kit s03
open Go.Sort (swp grow SWO PermIn SortedIn grow_empty grow_grow alloc_eq_grow size_swp siftDown heapBuild heapPop heapSort)

theorem size_sift (lt : ByteArray → ByteArray → Bool) (hi f : Nat) : ∀ (k r : Nat) (d : Array ByteArray), hi - r ≤ k → (siftDown lt hi f r d).size = d.size := by
  intro k
  induction k with
  | zero => intro r d h; rw [sift_end (by omega)]
  | succ k ih =>
    intro r d h
    by_cases h1 : hi ≤ 2 * r + 1
    · rw [sift_end h1]
    · by_cases h2 : 2 * r + 2 < hi ∧ lt d[f + (2 * r + 1)]! d[f + (2 * r + 2)]! = true
      · rw [sift_right h2.1 h2.2]
        split
        · rw [ih _ _ (by omega), size_swp]
        · rfl
      · rw [sift_left (by omega) (fun h3 => by
          cases hq : lt d[f + (2 * r + 1)]! d[f + (2 * r + 2)]!
          · rfl
          · exact absurd ⟨h3, hq⟩ h2)]
        split
        · rw [ih _ _ (by omega), size_swp]
        · rfl
theorem size_siftDown (lt : ByteArray → ByteArray → Bool) (hi f r : Nat) (d : Array ByteArray) : (siftDown lt hi f r d).size = d.size := size_sift lt hi f _ r d (Nat.le_refl _)
theorem sift_n (B g cap lo hi f n : Nat) (w0 w : World) (d : Array ByteArray) (hs : d.size = n) (hlo : lo ≤ hi) (hb : f + hi ≤ n) (hsz : n ≤ 1000) (hR : RowS B g w0 d w) :
    Calls Tryd.prog 71 #[.slice (some ⟨g, 0, none⟩) n cap, .int .i64 (lo : Int), .int .i64 (hi : Int), .int .i64 (f : Int), .func (.func 44) #[.agg #[]] #[]] w fun e w' => e = .returned (.tuple #[]) ∧ RowS B g w0 (siftDown ltS hi f lo d) w' := by
  subst hs
  exact sift_any B g cap lo hi f w0 w d hlo hb hsz hR
theorem sift_z (B g cap hi f n : Nat) (w0 w : World) (d : Array ByteArray) (hs : d.size = n) (hb : f + hi ≤ n) (hsz : n ≤ 1000) (hR : RowS B g w0 d w) :
    Calls Tryd.prog 71 #[.slice (some ⟨g, 0, none⟩) n cap, .int .i64 0, .int .i64 (hi : Int), .int .i64 (f : Int), .func (.func 44) #[.agg #[]] #[]] w fun e w' => e = .returned (.tuple #[]) ∧ RowS B g w0 (siftDown ltS hi f 0 d) w' :=
  sift_n B g cap 0 hi f n w0 w d hs (Nat.zero_le _) hb hsz hR

set_option maxRecDepth 100000 in
set_option maxHeartbeats 4000000 in
theorem heap_any (B g cap a b : Nat) (w0 w : World) (d : Array ByteArray) (hab : a < b) (hb : b ≤ d.size) (hsz : d.size ≤ 1000) (hR : RowS B g w0 d w) :
    Calls Tryd.prog 60 #[.slice (some ⟨g, 0, none⟩) d.size cap, .int .i64 (a : Int), .int .i64 (b : Int), .func (.func 44) #[.agg #[]] #[]] w fun e w' => e = .returned (.tuple #[]) ∧ RowS B g w0 (heapSort ltS d a b) w' := by
  have mx := mixed
  have R0 := row_hid hR
  obtain ⟨n, hn⟩ : ∃ n, n = d.size := ⟨_, rfl⟩
  rw [← hn] at hb hsz ⊢
  have HN := Lib.hid hn
  clear hR hn
  obtain ⟨hi, hhi⟩ : ∃ hi, b = a + hi := ⟨b - a, by omega⟩
  obtain ⟨z, hz⟩ : ∃ z, hi = z + 1 := ⟨hi - 1, by omega⟩
  obtain ⟨m, hm⟩ : ∃ m, m = z / 2 := ⟨_, rfl⟩
  have hb2 : a + hi ≤ n := by omega
  have hzh : z < hi := by omega
  have w1 : IntKind.i64.wrap ((b : Int) - (a : Int)) = (hi : Int) := wrap_nat (by omega) (by omega)
  have w2 : IntKind.i64.wrap ((hi : Int) - 1) = (z : Int) := wrap_nat (by omega) (by omega)
  have w3 : (z : Int) / 2 = (m : Int) := by omega
  have w4 : (z : Int).tdiv 2 = (m : Int) := by rw [Int.tdiv_eq_ediv_of_nonneg (by omega)]; omega
  have w5 : IntKind.i64.wrap (m : Int) = m := IntWalk.i64_in _ (by omega)
  have HS : Hid (heapSort ltS d a b = heapPop ltS a hi (heapBuild ltS hi a (m + 1) d)) := Lib.hid (by
    unfold heapSort
    rw [show b - a = hi by omega, show (hi - 1) / 2 = m by rw [hm, hz]; simp])
  have hmz : m ≤ z := by omega
  have HZ := Lib.hid hz
  clear hhi hz hm
  go_enter Tryd.func60, Tryd.ntmps60
  go_wp2
  go_loopw [11] (fun v wr => ∃ (k : Nat) (v0 : Int) (e : Array ByteArray), k ≤ m + 1 ∧ v = .int .i64 v0 ∧ Hid (v0 = (k : Int) - 1) ∧ Hid (RowS B g w0 e wr) ∧ Hid (heapBuild ltS hi a k e = heapBuild ltS hi a (m + 1) d) ∧ e.size = n) (fun v _ => (intOf v + 1).toNat)
  case atStart => exact ⟨m + 1, m, d, by omega, rfl, Lib.hid (by omega), R0, Lib.hid rfl, HN.out.symm⟩
  case round =>
    obtain ⟨k, v0, e, hk, rfl, HV, R1, H1, hs1⟩ := hrel
    clear R0
    rcases Nat.eq_zero_or_pos k with h0 | hpos
    · subst h0
      obtain rfl : v0 = -1 := by have := HV.out; omega
      have H2 : Hid (e = heapBuild ltS hi a (m + 1) d) := Lib.hid H1.out
      clear H1
      have HD := Lib.hid hs1
      clear hs1
      obtain ⟨wo, rfl⟩ : ∃ wo : World, wo = wr := ⟨_, rfl⟩
      go_wp2
      go_loopw [12] (fun v wr => ∃ (k : Nat) (v0 : Int) (e : Array ByteArray), k ≤ hi ∧ v = .int .i64 v0 ∧ Hid (v0 = (k : Int) - 1) ∧ Hid (RowS B g w0 e wr) ∧ Hid (heapPop ltS a k e = heapSort ltS d a b) ∧ e.size = n) (fun v _ => (intOf v + 1).toNat)
      case atStart => exact ⟨hi, z, e, by omega, rfl, Lib.hid (by have := HZ.out; omega), R1, Lib.hid (by rw [HS.out, H2.out]), HD.out⟩
      case round =>
        obtain ⟨k, v0, e, hk, rfl, HV, R2, H3, hs2⟩ := hrel
        clear R1
        rcases Nat.eq_zero_or_pos k with h0 | hpos
        · subst h0
          obtain rfl : v0 = -1 := by have := HV.out; omega
          have H4 : Hid (e = heapSort ltS d a b) := Lib.hid H3.out
          clear H3
          go_wp2
          go_end0
          exact ⟨rfl, by rw [← H4.out]; exact R2.out⟩
        · obtain ⟨p, hp⟩ : ∃ p, k = p + 1 := ⟨k - 1, by omega⟩
          subst hp
          obtain ⟨ap, hap⟩ : ∃ q, q = a + p := ⟨_, rfl⟩
          obtain rfl : v0 = (p : Int) := by have := HV.out; omega
          have x1 : IntKind.i64.wrap ((a : Int) + (p : Int)) = (ap : Int) := wrap_nat (by omega) (by omega)
          have x2 : IntKind.i64.wrap ((p : Int) - 1) = (p : Int) - 1 := IntWalk.i64_in _ (by omega)
          have ban : a < n := by omega
          have bap : ap < n := by omega
          have H4 : Hid (heapPop ltS a p (siftDown ltS p a 0 (swp e a ap)) = heapSort ltS d a b) := Lib.hid (by rw [← H3.out, hap]; rfl)
          have HD := Lib.hid hs2
          have hq : (swp e a ap).size = n := by rw [size_swp]; exact hs2
          have HQ := Lib.hid hq
          have hpn : a + p ≤ n := by omega
          clear H3 hap hq
          obtain ⟨sx, hsx⟩ : ∃ s, s = e[a]! := ⟨_, rfl⟩
          obtain ⟨sy, hsy⟩ : ∃ s, s = e[ap]! := ⟨_, rfl⟩
          have csx := R2.out.cell a (by omega)
          have csy := R2.out.cell ap (by omega)
          have fsx := R2.out.frozen a (by omega)
          have fsy := R2.out.frozen ap (by omega)
          have R3 := row_hid (R2.out.swap a ap (by omega) (by omega))
          obtain ⟨u, cu⟩ := R2.out.c2 a ap (by omega) (by omega) sy
          rw [← hsx] at csx
          rw [← hsy] at csy
          rw [← hsx, ← hsy] at R3
          clear R2 hsx hsy
          go_wp2_with fail
          go_big_region_o
          replace R3 := row_hid R3.out.drew
          clear csx csy fsx fsy cu
          generalize ((wr.setCell ⟨g, a, none⟩ (.string sy)).setCell ⟨g, ap, none⟩ (.string sx)).drew = w3 at R3 ⊢
          go_wp2_with (go_at_call 71; (with_reducible refine (sift_z B g cap p a n w0 _ (swp e a ap) HQ.out hpn hsz R3.out).mono ?_); rintro e w4 ⟨rfl, r4⟩; have R4 := row_hid r4; clear r4 R3)
          go_roundw
          case rel => exact ⟨p, (p : Int) - 1, siftDown ltS p a 0 (swp e a ap), by omega, rfl, Lib.hid rfl, R4, H4, by rw [size_siftDown]; exact HQ.out⟩
          case measure => simp [intOf] <;> omega
    · obtain ⟨p, hp⟩ : ∃ p, k = p + 1 := ⟨k - 1, by omega⟩
      subst hp
      obtain rfl : v0 = (p : Int) := by have := HV.out; omega
      have x2 : IntKind.i64.wrap ((p : Int) - 1) = (p : Int) - 1 := IntWalk.i64_in _ (by omega)
      have H4 : Hid (heapBuild ltS hi a p (siftDown ltS hi a p e) = heapBuild ltS hi a (m + 1) d) := Lib.hid (by rw [← H1.out]; rfl)
      have HD := Lib.hid hs1
      have hph : p ≤ hi := by omega
      clear H1 hs1
      go_wp2_with (go_at_call 71; (with_reducible refine (sift_n B g cap p hi a n w0 _ e HD.out hph hb2 hsz R1.out).mono ?_); rintro e w4 ⟨rfl, r4⟩; have R4 := row_hid r4; clear r4 R1)
      go_roundw
      case rel => exact ⟨p, (p : Int) - 1, siftDown ltS hi a p e, by omega, rfl, Lib.hid rfl, R4, H4, by rw [size_siftDown]; exact HD.out⟩
      case measure => simp [intOf] <;> omega
end Go.Proofs.YtabcggmmdjeobaaDoor.srt
