/-
  Layer 6: the laws' made.
-/
import Derived.Test.YtndghjfgjkjbdaaS06ZG
import Derived.Test.YtndghjfgjkjbdaaKitMod
namespace Go.Proofs.Ytndghjfgjkjbdaa.s06
set_option linter.unusedVariables false
set_option linter.unusedSimpArgs false
open Go.RowKit Go.WideMaps Go.Maps
open kit

/-- the names that numbers make -/
def uL : List ByteArray := [⟨#[97]⟩, ⟨#[98]⟩, ⟨#[99]⟩, ⟨#[100]⟩, ⟨#[101]⟩, ⟨#[102]⟩, ⟨#[103]⟩, ⟨#[104]⟩, ⟨#[105]⟩, ⟨#[106]⟩, ⟨#[65, 49]⟩, ⟨#[66, 49]⟩, ⟨#[67, 49]⟩, ⟨#[68, 49]⟩, ⟨#[69, 49]⟩, ⟨#[70, 49]⟩, ⟨#[71, 49]⟩, ⟨#[72, 49]⟩, ⟨#[73, 49]⟩, ⟨#[74, 49]⟩]
def nmN (x : Int) : ByteArray := uL[(x % 20).toNat]?.getD ByteArray.empty
def namesN (nums : List Int) : List ByteArray := (nums.take 30).map nmN
def madeN (nums : List Int) : List ByteArray := putAll [] (namesN nums)
theorem uL_ok : (uL.all fun x => decide (s03.checkR x.data.toList = 0)) = true := by kernel_rfl
theorem uL_small : (uL.all fun x => decide (x.size ≤ 100)) = true := by kernel_rfl
theorem uL_len : uL.length = 20 := rfl
theorem nm_mem (x : Int) : nmN x ∈ uL := mem_getS uL _ (by rw [uL_len]; have := Int.emod_lt_of_pos x (show (0 : Int) < 20 by decide); have := Int.emod_nonneg x (show (20 : Int) ≠ 0 by decide); omega)
theorem nm_at {x : Int} {k : Nat} (h : x % 20 = (k : Int)) : nmN x = uL[k]?.getD ByteArray.empty := by unfold nmN; rw [h, Int.toNat_natCast]
theorem u_check {s : ByteArray} (h : s ∈ uL) : s03.checkR s.data.toList = 0 := by
  have := List.all_eq_true.1 uL_ok s h
  simpa using this
theorem putAll_ok : ∀ {ss l : List ByteArray}, (∀ x ∈ l, x ∈ uL) → (∀ x ∈ ss, x ∈ uL) → l.Nodup → okT (putAll l ss) = 0 ∧ (putAll l ss).length ≤ 20 := by
  intro ss l hl hss hn
  have h1 : (putAll l ss).Nodup := putAll_nodup hn
  have h2 : ∀ x ∈ putAll l ss, x ∈ uL := fun x hx => by
    rcases putAll_mem.mp hx with h | h
    · exact hl x h
    · exact hss x h
  have h3 := nodup_len h1 h2
  rw [uL_len] at h3
  exact ⟨ok_iff.mpr ⟨by omega, h1, fun x hx => u_check (h2 x hx)⟩, h3⟩
theorem names_mem (nums : List Int) : ∀ x ∈ namesN nums, x ∈ uL := by
  intro x hx
  unfold namesN at hx
  rw [List.mem_map] at hx
  obtain ⟨y, _, rfl⟩ := hx
  exact nm_mem y
theorem take_ok (nums : List Int) (k : Nat) : okT (putAll [] ((namesN nums).take k)) = 0 ∧ (putAll [] ((namesN nums).take k)).length ≤ 20 :=
  putAll_ok (fun _ h => by cases h) (fun x hx => names_mem nums x (List.mem_of_mem_take hx)) List.nodup_nil
theorem made_ok (nums : List Int) : okT (madeN nums) = 0 ∧ (madeN nums).length ≤ 20 :=
  putAll_ok (fun _ h => by cases h) (names_mem nums) List.nodup_nil
theorem made_sub (nums : List Int) : ∀ x ∈ madeN nums, x ∈ uL := fun x hx => by
  rcases putAll_mem.mp hx with h | h
  · cases h
  · exact names_mem nums x h
theorem u_small {l : List ByteArray} (h : ∀ x ∈ l, x ∈ uL) : ∀ x ∈ l, x.size ≤ 9223372036854775807 := fun x hx => small_of uL_small x (h x hx)
theorem put1_ok2 {l : List ByteArray} {s : ByteArray} (h0 : okT l = 0) (hl : l.length ≤ 20) (hs : s03.checkR s.data.toList = 0) : putT l s false = (put1 l s, (ix l s : Int), 0) := by
  rw [putT_good h0, putP_ok hs (.inr (by omega))]
  rfl
theorem names_len (nums : List Int) : (namesN nums).length = min 30 nums.length := by unfold namesN; simp
theorem take_next (nums : List Int) (k : Nat) (hk : k < (namesN nums).length) : putAll [] ((namesN nums).take (k + 1)) = put1 (putAll [] ((namesN nums).take k)) (nmN (nums[k]?.getD 0)) := by
  rw [take_snocS _ k hk, putAll_snoc]
  congr 1
  have h1 : k < nums.length := by rw [names_len] at hk; omega
  have h2 : k < 30 := by rw [names_len] at hk; omega
  unfold namesN
  rw [List.getElem?_map, List.getElem?_take_of_lt h2, List.getElem?_eq_getElem h1]
  rfl
theorem conv1n (x : Int) (y : ByteArray) (h : strOfNums [x] = y) (W0 : World) : (convert 87 9 (.slice (some ⟨W0.heap.size, 0, none⟩) 1 1)).run Try.prog (W0.alloc (.cells #[.int .u8 x] 5)) = .ok (.string y) (W0.alloc (.cells #[.int .u8 x] 5)) := by
  rw [← h]
  exact run_convert_bytes_arg _ 87 5 Try.underlying87 Try.underlying5 _ 0 1 1 [x] rfl (fun i hi => by
    obtain rfl : i = 0 := by simpa using hi
    exact (Box.new W0 5 #[.int .u8 x]).cell 0) 9 Try.underlying9
theorem put1_len (l : List ByteArray) (s : ByteArray) : (put1 l s).length ≤ l.length + 1 := by
  unfold put1
  split <;> simp
def MadeT (L : List ByteArray) (w : World) (e : Ending) (w' : World) : Prop :=
  ∃ a k, e = .returned (.tuple #[.agg #[.slice a L.length k], .bool true]) ∧ ReadsS w' a L ∧ Below w.heap.size w w'
set_option maxRecDepth 100000 in
set_option maxHeartbeats 8000000 in
theorem lmade_any (a : Option Addr) (cap : Nat) (nums : List Int) (w : World) (hn : nums.length ≤ 9223372036854775807) (hz : Hid (∀ z ∈ nums, -9223372036854775808 ≤ z ∧ z ≤ 9223372036854775807)) (hr : Hid (ReadsI w a nums)) :
    Calls Try.prog 38 #[.slice a nums.length cap] w (MadeT (madeN nums) w) := by
  have R1 := Lib.hid ((Box.new w 24 #[.slice none 0 0]).alloc (.cells #[.slice none 0 0] 24))
  have T1 := Lib.hid (Box.new2 w (.cells #[.slice none 0 0] 24) 24 #[.slice none 0 0])
  have B1 := Lib.hid (below2 w (.cells #[.slice none 0 0] 24) (.cells #[.slice none 0 0] 24))
  have HN := Lib.hid (names_len nums)
  go_enter Try.func38, Try.ntmps38
  go_wp2
  go_loopw [5] (fun i wr => ∃ (k : Nat) (va : Option Addr) (vk : Nat) (cur : List ByteArray), k ≤ nums.length ∧ k ≤ 30 ∧ i = .int .i64 k ∧ Hid (cur = putAll [] ((namesN nums).take k)) ∧ Hid (Box wr 24 w.heap.size #[.slice none 0 0]) ∧ Hid (Box wr 24 (w.heap.size + 1) #[.slice va cur.length vk]) ∧ Hid (ReadsS wr va cur) ∧ Hid (Below w.heap.size w wr)) (fun i _ => nums.length - (intOf i).toNat)
  case atStart => exact ⟨0, none, 0, [], by omega, by omega, rfl, Lib.hid rfl, R1, T1, Lib.hid (Reads.nil _ _), B1⟩
  case round =>
    obtain ⟨k, va, vk, cur, hk, hk30, rfl, HCU, RB, TB, RT, B⟩ := hrel
    have r0 := RB.out.cell 0
    have r1 := RB.out.free 0
    have r2 := RB.out.lt
    have c0 := TB.out.cell 0
    have tl := TB.out.lt
    by_cases hkl : k < nums.length
    · by_cases h3 : k < 30
      · obtain ⟨bq, off, rfl, hb, hcl⟩ := hr.out.below B.out k hkl
        have hzz := hz.out _ (mem_getD nums k hkl)
        have hkn : k < (namesN nums).length := by rw [HN.out]; omega
        have hNX := take_next nums k hkn
        have hO := take_ok nums k
        have hM : Hid (∀ x ∈ cur, x ∈ uL) := Lib.hid (by rw [HCU.out]; intro x hx; rcases putAll_mem.mp hx with h | h; cases h; exact names_mem nums x (List.mem_of_mem_take h))
        rw [← HCU.out] at hNX hO
        have hHS := Lib.hid (u_small hM.out)
        have HNX := Lib.hid hNX
        obtain ⟨hO1, hO2⟩ := hO
        have HO1 := Lib.hid hO1
        clear hNX hO1 hM
        generalize nums[k]?.getD 0 = x at hcl hzz HNX
        have h1 := hzz.1
        have h2 := hzz.2
        have hm : x % 20 = 0 ∨ x % 20 = 1 ∨ x % 20 = 2 ∨ x % 20 = 3 ∨ x % 20 = 4 ∨ x % 20 = 5 ∨ x % 20 = 6 ∨ x % 20 = 7 ∨ x % 20 = 8 ∨ x % 20 = 9 ∨ x % 20 = 10 ∨ x % 20 = 11 ∨ x % 20 = 12 ∨ x % 20 = 13 ∨ x % 20 = 14 ∨ x % 20 = 15 ∨ x % 20 = 16 ∨ x % 20 = 17 ∨ x % 20 = 18 ∨ x % 20 = 19 := by have := Int.emod_lt_of_pos x (show (0 : Int) < 20 by decide); have := Int.emod_nonneg x (show (20 : Int) ≠ 0 by decide); omega
        clear hzz
        rcases hm with hm | hm | hm | hm | hm | hm | hm | hm | hm | hm | hm | hm | hm | hm | hm | hm | hm | hm | hm | hm
        · have HM := Lib.hid hm
          have HS : Hid (nmN x = ⟨#[97]⟩) := Lib.hid (nm_at (k := 0) hm)
          have HP := Lib.hid (put1_ok2 (s := ⟨#[97]⟩) HO1.out hO2 (u_check (s := ⟨#[97]⟩) (by rw [← HS.out]; exact nm_mem x)))
          have hl4 : (put1 cur ⟨#[97]⟩).length ≤ 100 := by have := put1_len cur ⟨#[97]⟩; omega
          have KA := ((Below.refl wr.heap.size wr).alloc (Nat.le_refl _) (.cells #[.int .u8 97] 5))
          have RA := Lib.hid (RT.out.below KA)
          have RBA := Lib.hid (RB.out.below KA)
          have TBA := Lib.hid (TB.out.below KA)
          have BA := Lib.hid (below_then B.out KA)
          have HCX : Hid (put1 cur ⟨#[97]⟩ = putAll [] ((namesN nums).take (k + 1))) := Lib.hid (by rw [HNX.out, HS.out])
          have v1 := conv1n 97 ⟨#[97]⟩ (by kernel_rfl)
          clear hm HS HO1 HCU KA HNX
          go_wp2_with (first
            | (go_at_call 39; refine (mod_any x 20 h1 h2 (by decide) (by decide) _).mono ?_; rintro e w9 ⟨rfl, rfl⟩; rw [HM.out])
            | (go_at_call 17; refine (pintern_any va vk cur ⟨#[97]⟩ (put1 cur ⟨#[97]⟩) (ix cur ⟨#[97]⟩) 0 _ (by omega) hHS (by decide) RA HP).mono ?_; rintro e w3 ⟨V, Bo, rfl, _, hT, hB⟩; generalize put1 cur ⟨#[97]⟩ = nx at *; obtain ⟨a4, k4, rfl⟩ := tab_shape hT; have KK := (Below.refl w3.heap.size w3).alloc (Nat.le_refl _) (.cells #[.slice a4 nx.length k4] 24); have hB2 := hB.trans (KK.mono hB.size); have RB3 := Lib.hid (RBA.out.below hB2); have TB3 := Lib.hid (TBA.out.below hB2); have RT3 := Lib.hid (hT.reads.below KK); have B3 := Lib.hid (below_then BA.out hB2); have NB := Lib.hid (Box.new w3 24 #[.slice a4 nx.length k4]); clear hB hB2 KK hT c0 r0 r1 r2; have t0 := TB3.out.cell 0; have t1 := TB3.out.free 0; have t2 := TB3.out.lt; have n0 := NB.out.cell 0))
          go_roundw
          case rel => exact ⟨k + 1, a4, k4, nx, by omega, by omega, by go_num, HCX, Lib.hid (RB3.out.other (by omega) _), Lib.hid (TB3.out.set 0 (by simp) _), Lib.hid (reads_box_set RT3.out TB3.out _), Lib.hid (B3.out.setCell (p := ⟨w.heap.size + 1, 0, none⟩) (by simp) _)⟩
          case measure => simp [intOf]; omega
        · have HM := Lib.hid hm
          have HS : Hid (nmN x = ⟨#[98]⟩) := Lib.hid (nm_at (k := 1) hm)
          have HP := Lib.hid (put1_ok2 (s := ⟨#[98]⟩) HO1.out hO2 (u_check (s := ⟨#[98]⟩) (by rw [← HS.out]; exact nm_mem x)))
          have hl4 : (put1 cur ⟨#[98]⟩).length ≤ 100 := by have := put1_len cur ⟨#[98]⟩; omega
          have KA := ((Below.refl wr.heap.size wr).alloc (Nat.le_refl _) (.cells #[.int .u8 98] 5))
          have RA := Lib.hid (RT.out.below KA)
          have RBA := Lib.hid (RB.out.below KA)
          have TBA := Lib.hid (TB.out.below KA)
          have BA := Lib.hid (below_then B.out KA)
          have HCX : Hid (put1 cur ⟨#[98]⟩ = putAll [] ((namesN nums).take (k + 1))) := Lib.hid (by rw [HNX.out, HS.out])
          have v1 := conv1n 98 ⟨#[98]⟩ (by kernel_rfl)
          clear hm HS HO1 HCU KA HNX
          go_wp2_with (first
            | (go_at_call 39; refine (mod_any x 20 h1 h2 (by decide) (by decide) _).mono ?_; rintro e w9 ⟨rfl, rfl⟩; rw [HM.out])
            | (go_at_call 17; refine (pintern_any va vk cur ⟨#[98]⟩ (put1 cur ⟨#[98]⟩) (ix cur ⟨#[98]⟩) 0 _ (by omega) hHS (by decide) RA HP).mono ?_; rintro e w3 ⟨V, Bo, rfl, _, hT, hB⟩; generalize put1 cur ⟨#[98]⟩ = nx at *; obtain ⟨a4, k4, rfl⟩ := tab_shape hT; have KK := (Below.refl w3.heap.size w3).alloc (Nat.le_refl _) (.cells #[.slice a4 nx.length k4] 24); have hB2 := hB.trans (KK.mono hB.size); have RB3 := Lib.hid (RBA.out.below hB2); have TB3 := Lib.hid (TBA.out.below hB2); have RT3 := Lib.hid (hT.reads.below KK); have B3 := Lib.hid (below_then BA.out hB2); have NB := Lib.hid (Box.new w3 24 #[.slice a4 nx.length k4]); clear hB hB2 KK hT c0 r0 r1 r2; have t0 := TB3.out.cell 0; have t1 := TB3.out.free 0; have t2 := TB3.out.lt; have n0 := NB.out.cell 0))
          go_roundw
          case rel => exact ⟨k + 1, a4, k4, nx, by omega, by omega, by go_num, HCX, Lib.hid (RB3.out.other (by omega) _), Lib.hid (TB3.out.set 0 (by simp) _), Lib.hid (reads_box_set RT3.out TB3.out _), Lib.hid (B3.out.setCell (p := ⟨w.heap.size + 1, 0, none⟩) (by simp) _)⟩
          case measure => simp [intOf]; omega
        · have HM := Lib.hid hm
          have HS : Hid (nmN x = ⟨#[99]⟩) := Lib.hid (nm_at (k := 2) hm)
          have HP := Lib.hid (put1_ok2 (s := ⟨#[99]⟩) HO1.out hO2 (u_check (s := ⟨#[99]⟩) (by rw [← HS.out]; exact nm_mem x)))
          have hl4 : (put1 cur ⟨#[99]⟩).length ≤ 100 := by have := put1_len cur ⟨#[99]⟩; omega
          have KA := ((Below.refl wr.heap.size wr).alloc (Nat.le_refl _) (.cells #[.int .u8 99] 5))
          have RA := Lib.hid (RT.out.below KA)
          have RBA := Lib.hid (RB.out.below KA)
          have TBA := Lib.hid (TB.out.below KA)
          have BA := Lib.hid (below_then B.out KA)
          have HCX : Hid (put1 cur ⟨#[99]⟩ = putAll [] ((namesN nums).take (k + 1))) := Lib.hid (by rw [HNX.out, HS.out])
          have v1 := conv1n 99 ⟨#[99]⟩ (by kernel_rfl)
          clear hm HS HO1 HCU KA HNX
          go_wp2_with (first
            | (go_at_call 39; refine (mod_any x 20 h1 h2 (by decide) (by decide) _).mono ?_; rintro e w9 ⟨rfl, rfl⟩; rw [HM.out])
            | (go_at_call 17; refine (pintern_any va vk cur ⟨#[99]⟩ (put1 cur ⟨#[99]⟩) (ix cur ⟨#[99]⟩) 0 _ (by omega) hHS (by decide) RA HP).mono ?_; rintro e w3 ⟨V, Bo, rfl, _, hT, hB⟩; generalize put1 cur ⟨#[99]⟩ = nx at *; obtain ⟨a4, k4, rfl⟩ := tab_shape hT; have KK := (Below.refl w3.heap.size w3).alloc (Nat.le_refl _) (.cells #[.slice a4 nx.length k4] 24); have hB2 := hB.trans (KK.mono hB.size); have RB3 := Lib.hid (RBA.out.below hB2); have TB3 := Lib.hid (TBA.out.below hB2); have RT3 := Lib.hid (hT.reads.below KK); have B3 := Lib.hid (below_then BA.out hB2); have NB := Lib.hid (Box.new w3 24 #[.slice a4 nx.length k4]); clear hB hB2 KK hT c0 r0 r1 r2; have t0 := TB3.out.cell 0; have t1 := TB3.out.free 0; have t2 := TB3.out.lt; have n0 := NB.out.cell 0))
          go_roundw
          case rel => exact ⟨k + 1, a4, k4, nx, by omega, by omega, by go_num, HCX, Lib.hid (RB3.out.other (by omega) _), Lib.hid (TB3.out.set 0 (by simp) _), Lib.hid (reads_box_set RT3.out TB3.out _), Lib.hid (B3.out.setCell (p := ⟨w.heap.size + 1, 0, none⟩) (by simp) _)⟩
          case measure => simp [intOf]; omega
        · have HM := Lib.hid hm
          have HS : Hid (nmN x = ⟨#[100]⟩) := Lib.hid (nm_at (k := 3) hm)
          have HP := Lib.hid (put1_ok2 (s := ⟨#[100]⟩) HO1.out hO2 (u_check (s := ⟨#[100]⟩) (by rw [← HS.out]; exact nm_mem x)))
          have hl4 : (put1 cur ⟨#[100]⟩).length ≤ 100 := by have := put1_len cur ⟨#[100]⟩; omega
          have KA := ((Below.refl wr.heap.size wr).alloc (Nat.le_refl _) (.cells #[.int .u8 100] 5))
          have RA := Lib.hid (RT.out.below KA)
          have RBA := Lib.hid (RB.out.below KA)
          have TBA := Lib.hid (TB.out.below KA)
          have BA := Lib.hid (below_then B.out KA)
          have HCX : Hid (put1 cur ⟨#[100]⟩ = putAll [] ((namesN nums).take (k + 1))) := Lib.hid (by rw [HNX.out, HS.out])
          have v1 := conv1n 100 ⟨#[100]⟩ (by kernel_rfl)
          clear hm HS HO1 HCU KA HNX
          go_wp2_with (first
            | (go_at_call 39; refine (mod_any x 20 h1 h2 (by decide) (by decide) _).mono ?_; rintro e w9 ⟨rfl, rfl⟩; rw [HM.out])
            | (go_at_call 17; refine (pintern_any va vk cur ⟨#[100]⟩ (put1 cur ⟨#[100]⟩) (ix cur ⟨#[100]⟩) 0 _ (by omega) hHS (by decide) RA HP).mono ?_; rintro e w3 ⟨V, Bo, rfl, _, hT, hB⟩; generalize put1 cur ⟨#[100]⟩ = nx at *; obtain ⟨a4, k4, rfl⟩ := tab_shape hT; have KK := (Below.refl w3.heap.size w3).alloc (Nat.le_refl _) (.cells #[.slice a4 nx.length k4] 24); have hB2 := hB.trans (KK.mono hB.size); have RB3 := Lib.hid (RBA.out.below hB2); have TB3 := Lib.hid (TBA.out.below hB2); have RT3 := Lib.hid (hT.reads.below KK); have B3 := Lib.hid (below_then BA.out hB2); have NB := Lib.hid (Box.new w3 24 #[.slice a4 nx.length k4]); clear hB hB2 KK hT c0 r0 r1 r2; have t0 := TB3.out.cell 0; have t1 := TB3.out.free 0; have t2 := TB3.out.lt; have n0 := NB.out.cell 0))
          go_roundw
          case rel => exact ⟨k + 1, a4, k4, nx, by omega, by omega, by go_num, HCX, Lib.hid (RB3.out.other (by omega) _), Lib.hid (TB3.out.set 0 (by simp) _), Lib.hid (reads_box_set RT3.out TB3.out _), Lib.hid (B3.out.setCell (p := ⟨w.heap.size + 1, 0, none⟩) (by simp) _)⟩
          case measure => simp [intOf]; omega
        · have HM := Lib.hid hm
          have HS : Hid (nmN x = ⟨#[101]⟩) := Lib.hid (nm_at (k := 4) hm)
          have HP := Lib.hid (put1_ok2 (s := ⟨#[101]⟩) HO1.out hO2 (u_check (s := ⟨#[101]⟩) (by rw [← HS.out]; exact nm_mem x)))
          have hl4 : (put1 cur ⟨#[101]⟩).length ≤ 100 := by have := put1_len cur ⟨#[101]⟩; omega
          have KA := ((Below.refl wr.heap.size wr).alloc (Nat.le_refl _) (.cells #[.int .u8 101] 5))
          have RA := Lib.hid (RT.out.below KA)
          have RBA := Lib.hid (RB.out.below KA)
          have TBA := Lib.hid (TB.out.below KA)
          have BA := Lib.hid (below_then B.out KA)
          have HCX : Hid (put1 cur ⟨#[101]⟩ = putAll [] ((namesN nums).take (k + 1))) := Lib.hid (by rw [HNX.out, HS.out])
          have v1 := conv1n 101 ⟨#[101]⟩ (by kernel_rfl)
          clear hm HS HO1 HCU KA HNX
          go_wp2_with (first
            | (go_at_call 39; refine (mod_any x 20 h1 h2 (by decide) (by decide) _).mono ?_; rintro e w9 ⟨rfl, rfl⟩; rw [HM.out])
            | (go_at_call 17; refine (pintern_any va vk cur ⟨#[101]⟩ (put1 cur ⟨#[101]⟩) (ix cur ⟨#[101]⟩) 0 _ (by omega) hHS (by decide) RA HP).mono ?_; rintro e w3 ⟨V, Bo, rfl, _, hT, hB⟩; generalize put1 cur ⟨#[101]⟩ = nx at *; obtain ⟨a4, k4, rfl⟩ := tab_shape hT; have KK := (Below.refl w3.heap.size w3).alloc (Nat.le_refl _) (.cells #[.slice a4 nx.length k4] 24); have hB2 := hB.trans (KK.mono hB.size); have RB3 := Lib.hid (RBA.out.below hB2); have TB3 := Lib.hid (TBA.out.below hB2); have RT3 := Lib.hid (hT.reads.below KK); have B3 := Lib.hid (below_then BA.out hB2); have NB := Lib.hid (Box.new w3 24 #[.slice a4 nx.length k4]); clear hB hB2 KK hT c0 r0 r1 r2; have t0 := TB3.out.cell 0; have t1 := TB3.out.free 0; have t2 := TB3.out.lt; have n0 := NB.out.cell 0))
          go_roundw
          case rel => exact ⟨k + 1, a4, k4, nx, by omega, by omega, by go_num, HCX, Lib.hid (RB3.out.other (by omega) _), Lib.hid (TB3.out.set 0 (by simp) _), Lib.hid (reads_box_set RT3.out TB3.out _), Lib.hid (B3.out.setCell (p := ⟨w.heap.size + 1, 0, none⟩) (by simp) _)⟩
          case measure => simp [intOf]; omega
        · have HM := Lib.hid hm
          have HS : Hid (nmN x = ⟨#[102]⟩) := Lib.hid (nm_at (k := 5) hm)
          have HP := Lib.hid (put1_ok2 (s := ⟨#[102]⟩) HO1.out hO2 (u_check (s := ⟨#[102]⟩) (by rw [← HS.out]; exact nm_mem x)))
          have hl4 : (put1 cur ⟨#[102]⟩).length ≤ 100 := by have := put1_len cur ⟨#[102]⟩; omega
          have KA := ((Below.refl wr.heap.size wr).alloc (Nat.le_refl _) (.cells #[.int .u8 102] 5))
          have RA := Lib.hid (RT.out.below KA)
          have RBA := Lib.hid (RB.out.below KA)
          have TBA := Lib.hid (TB.out.below KA)
          have BA := Lib.hid (below_then B.out KA)
          have HCX : Hid (put1 cur ⟨#[102]⟩ = putAll [] ((namesN nums).take (k + 1))) := Lib.hid (by rw [HNX.out, HS.out])
          have v1 := conv1n 102 ⟨#[102]⟩ (by kernel_rfl)
          clear hm HS HO1 HCU KA HNX
          go_wp2_with (first
            | (go_at_call 39; refine (mod_any x 20 h1 h2 (by decide) (by decide) _).mono ?_; rintro e w9 ⟨rfl, rfl⟩; rw [HM.out])
            | (go_at_call 17; refine (pintern_any va vk cur ⟨#[102]⟩ (put1 cur ⟨#[102]⟩) (ix cur ⟨#[102]⟩) 0 _ (by omega) hHS (by decide) RA HP).mono ?_; rintro e w3 ⟨V, Bo, rfl, _, hT, hB⟩; generalize put1 cur ⟨#[102]⟩ = nx at *; obtain ⟨a4, k4, rfl⟩ := tab_shape hT; have KK := (Below.refl w3.heap.size w3).alloc (Nat.le_refl _) (.cells #[.slice a4 nx.length k4] 24); have hB2 := hB.trans (KK.mono hB.size); have RB3 := Lib.hid (RBA.out.below hB2); have TB3 := Lib.hid (TBA.out.below hB2); have RT3 := Lib.hid (hT.reads.below KK); have B3 := Lib.hid (below_then BA.out hB2); have NB := Lib.hid (Box.new w3 24 #[.slice a4 nx.length k4]); clear hB hB2 KK hT c0 r0 r1 r2; have t0 := TB3.out.cell 0; have t1 := TB3.out.free 0; have t2 := TB3.out.lt; have n0 := NB.out.cell 0))
          go_roundw
          case rel => exact ⟨k + 1, a4, k4, nx, by omega, by omega, by go_num, HCX, Lib.hid (RB3.out.other (by omega) _), Lib.hid (TB3.out.set 0 (by simp) _), Lib.hid (reads_box_set RT3.out TB3.out _), Lib.hid (B3.out.setCell (p := ⟨w.heap.size + 1, 0, none⟩) (by simp) _)⟩
          case measure => simp [intOf]; omega
        · have HM := Lib.hid hm
          have HS : Hid (nmN x = ⟨#[103]⟩) := Lib.hid (nm_at (k := 6) hm)
          have HP := Lib.hid (put1_ok2 (s := ⟨#[103]⟩) HO1.out hO2 (u_check (s := ⟨#[103]⟩) (by rw [← HS.out]; exact nm_mem x)))
          have hl4 : (put1 cur ⟨#[103]⟩).length ≤ 100 := by have := put1_len cur ⟨#[103]⟩; omega
          have KA := ((Below.refl wr.heap.size wr).alloc (Nat.le_refl _) (.cells #[.int .u8 103] 5))
          have RA := Lib.hid (RT.out.below KA)
          have RBA := Lib.hid (RB.out.below KA)
          have TBA := Lib.hid (TB.out.below KA)
          have BA := Lib.hid (below_then B.out KA)
          have HCX : Hid (put1 cur ⟨#[103]⟩ = putAll [] ((namesN nums).take (k + 1))) := Lib.hid (by rw [HNX.out, HS.out])
          have v1 := conv1n 103 ⟨#[103]⟩ (by kernel_rfl)
          clear hm HS HO1 HCU KA HNX
          go_wp2_with (first
            | (go_at_call 39; refine (mod_any x 20 h1 h2 (by decide) (by decide) _).mono ?_; rintro e w9 ⟨rfl, rfl⟩; rw [HM.out])
            | (go_at_call 17; refine (pintern_any va vk cur ⟨#[103]⟩ (put1 cur ⟨#[103]⟩) (ix cur ⟨#[103]⟩) 0 _ (by omega) hHS (by decide) RA HP).mono ?_; rintro e w3 ⟨V, Bo, rfl, _, hT, hB⟩; generalize put1 cur ⟨#[103]⟩ = nx at *; obtain ⟨a4, k4, rfl⟩ := tab_shape hT; have KK := (Below.refl w3.heap.size w3).alloc (Nat.le_refl _) (.cells #[.slice a4 nx.length k4] 24); have hB2 := hB.trans (KK.mono hB.size); have RB3 := Lib.hid (RBA.out.below hB2); have TB3 := Lib.hid (TBA.out.below hB2); have RT3 := Lib.hid (hT.reads.below KK); have B3 := Lib.hid (below_then BA.out hB2); have NB := Lib.hid (Box.new w3 24 #[.slice a4 nx.length k4]); clear hB hB2 KK hT c0 r0 r1 r2; have t0 := TB3.out.cell 0; have t1 := TB3.out.free 0; have t2 := TB3.out.lt; have n0 := NB.out.cell 0))
          go_roundw
          case rel => exact ⟨k + 1, a4, k4, nx, by omega, by omega, by go_num, HCX, Lib.hid (RB3.out.other (by omega) _), Lib.hid (TB3.out.set 0 (by simp) _), Lib.hid (reads_box_set RT3.out TB3.out _), Lib.hid (B3.out.setCell (p := ⟨w.heap.size + 1, 0, none⟩) (by simp) _)⟩
          case measure => simp [intOf]; omega
        · have HM := Lib.hid hm
          have HS : Hid (nmN x = ⟨#[104]⟩) := Lib.hid (nm_at (k := 7) hm)
          have HP := Lib.hid (put1_ok2 (s := ⟨#[104]⟩) HO1.out hO2 (u_check (s := ⟨#[104]⟩) (by rw [← HS.out]; exact nm_mem x)))
          have hl4 : (put1 cur ⟨#[104]⟩).length ≤ 100 := by have := put1_len cur ⟨#[104]⟩; omega
          have KA := ((Below.refl wr.heap.size wr).alloc (Nat.le_refl _) (.cells #[.int .u8 104] 5))
          have RA := Lib.hid (RT.out.below KA)
          have RBA := Lib.hid (RB.out.below KA)
          have TBA := Lib.hid (TB.out.below KA)
          have BA := Lib.hid (below_then B.out KA)
          have HCX : Hid (put1 cur ⟨#[104]⟩ = putAll [] ((namesN nums).take (k + 1))) := Lib.hid (by rw [HNX.out, HS.out])
          have v1 := conv1n 104 ⟨#[104]⟩ (by kernel_rfl)
          clear hm HS HO1 HCU KA HNX
          go_wp2_with (first
            | (go_at_call 39; refine (mod_any x 20 h1 h2 (by decide) (by decide) _).mono ?_; rintro e w9 ⟨rfl, rfl⟩; rw [HM.out])
            | (go_at_call 17; refine (pintern_any va vk cur ⟨#[104]⟩ (put1 cur ⟨#[104]⟩) (ix cur ⟨#[104]⟩) 0 _ (by omega) hHS (by decide) RA HP).mono ?_; rintro e w3 ⟨V, Bo, rfl, _, hT, hB⟩; generalize put1 cur ⟨#[104]⟩ = nx at *; obtain ⟨a4, k4, rfl⟩ := tab_shape hT; have KK := (Below.refl w3.heap.size w3).alloc (Nat.le_refl _) (.cells #[.slice a4 nx.length k4] 24); have hB2 := hB.trans (KK.mono hB.size); have RB3 := Lib.hid (RBA.out.below hB2); have TB3 := Lib.hid (TBA.out.below hB2); have RT3 := Lib.hid (hT.reads.below KK); have B3 := Lib.hid (below_then BA.out hB2); have NB := Lib.hid (Box.new w3 24 #[.slice a4 nx.length k4]); clear hB hB2 KK hT c0 r0 r1 r2; have t0 := TB3.out.cell 0; have t1 := TB3.out.free 0; have t2 := TB3.out.lt; have n0 := NB.out.cell 0))
          go_roundw
          case rel => exact ⟨k + 1, a4, k4, nx, by omega, by omega, by go_num, HCX, Lib.hid (RB3.out.other (by omega) _), Lib.hid (TB3.out.set 0 (by simp) _), Lib.hid (reads_box_set RT3.out TB3.out _), Lib.hid (B3.out.setCell (p := ⟨w.heap.size + 1, 0, none⟩) (by simp) _)⟩
          case measure => simp [intOf]; omega
        · have HM := Lib.hid hm
          have HS : Hid (nmN x = ⟨#[105]⟩) := Lib.hid (nm_at (k := 8) hm)
          have HP := Lib.hid (put1_ok2 (s := ⟨#[105]⟩) HO1.out hO2 (u_check (s := ⟨#[105]⟩) (by rw [← HS.out]; exact nm_mem x)))
          have hl4 : (put1 cur ⟨#[105]⟩).length ≤ 100 := by have := put1_len cur ⟨#[105]⟩; omega
          have KA := ((Below.refl wr.heap.size wr).alloc (Nat.le_refl _) (.cells #[.int .u8 105] 5))
          have RA := Lib.hid (RT.out.below KA)
          have RBA := Lib.hid (RB.out.below KA)
          have TBA := Lib.hid (TB.out.below KA)
          have BA := Lib.hid (below_then B.out KA)
          have HCX : Hid (put1 cur ⟨#[105]⟩ = putAll [] ((namesN nums).take (k + 1))) := Lib.hid (by rw [HNX.out, HS.out])
          have v1 := conv1n 105 ⟨#[105]⟩ (by kernel_rfl)
          clear hm HS HO1 HCU KA HNX
          go_wp2_with (first
            | (go_at_call 39; refine (mod_any x 20 h1 h2 (by decide) (by decide) _).mono ?_; rintro e w9 ⟨rfl, rfl⟩; rw [HM.out])
            | (go_at_call 17; refine (pintern_any va vk cur ⟨#[105]⟩ (put1 cur ⟨#[105]⟩) (ix cur ⟨#[105]⟩) 0 _ (by omega) hHS (by decide) RA HP).mono ?_; rintro e w3 ⟨V, Bo, rfl, _, hT, hB⟩; generalize put1 cur ⟨#[105]⟩ = nx at *; obtain ⟨a4, k4, rfl⟩ := tab_shape hT; have KK := (Below.refl w3.heap.size w3).alloc (Nat.le_refl _) (.cells #[.slice a4 nx.length k4] 24); have hB2 := hB.trans (KK.mono hB.size); have RB3 := Lib.hid (RBA.out.below hB2); have TB3 := Lib.hid (TBA.out.below hB2); have RT3 := Lib.hid (hT.reads.below KK); have B3 := Lib.hid (below_then BA.out hB2); have NB := Lib.hid (Box.new w3 24 #[.slice a4 nx.length k4]); clear hB hB2 KK hT c0 r0 r1 r2; have t0 := TB3.out.cell 0; have t1 := TB3.out.free 0; have t2 := TB3.out.lt; have n0 := NB.out.cell 0))
          go_roundw
          case rel => exact ⟨k + 1, a4, k4, nx, by omega, by omega, by go_num, HCX, Lib.hid (RB3.out.other (by omega) _), Lib.hid (TB3.out.set 0 (by simp) _), Lib.hid (reads_box_set RT3.out TB3.out _), Lib.hid (B3.out.setCell (p := ⟨w.heap.size + 1, 0, none⟩) (by simp) _)⟩
          case measure => simp [intOf]; omega
        · have HM := Lib.hid hm
          have HS : Hid (nmN x = ⟨#[106]⟩) := Lib.hid (nm_at (k := 9) hm)
          have HP := Lib.hid (put1_ok2 (s := ⟨#[106]⟩) HO1.out hO2 (u_check (s := ⟨#[106]⟩) (by rw [← HS.out]; exact nm_mem x)))
          have hl4 : (put1 cur ⟨#[106]⟩).length ≤ 100 := by have := put1_len cur ⟨#[106]⟩; omega
          have KA := ((Below.refl wr.heap.size wr).alloc (Nat.le_refl _) (.cells #[.int .u8 106] 5))
          have RA := Lib.hid (RT.out.below KA)
          have RBA := Lib.hid (RB.out.below KA)
          have TBA := Lib.hid (TB.out.below KA)
          have BA := Lib.hid (below_then B.out KA)
          have HCX : Hid (put1 cur ⟨#[106]⟩ = putAll [] ((namesN nums).take (k + 1))) := Lib.hid (by rw [HNX.out, HS.out])
          have v1 := conv1n 106 ⟨#[106]⟩ (by kernel_rfl)
          clear hm HS HO1 HCU KA HNX
          go_wp2_with (first
            | (go_at_call 39; refine (mod_any x 20 h1 h2 (by decide) (by decide) _).mono ?_; rintro e w9 ⟨rfl, rfl⟩; rw [HM.out])
            | (go_at_call 17; refine (pintern_any va vk cur ⟨#[106]⟩ (put1 cur ⟨#[106]⟩) (ix cur ⟨#[106]⟩) 0 _ (by omega) hHS (by decide) RA HP).mono ?_; rintro e w3 ⟨V, Bo, rfl, _, hT, hB⟩; generalize put1 cur ⟨#[106]⟩ = nx at *; obtain ⟨a4, k4, rfl⟩ := tab_shape hT; have KK := (Below.refl w3.heap.size w3).alloc (Nat.le_refl _) (.cells #[.slice a4 nx.length k4] 24); have hB2 := hB.trans (KK.mono hB.size); have RB3 := Lib.hid (RBA.out.below hB2); have TB3 := Lib.hid (TBA.out.below hB2); have RT3 := Lib.hid (hT.reads.below KK); have B3 := Lib.hid (below_then BA.out hB2); have NB := Lib.hid (Box.new w3 24 #[.slice a4 nx.length k4]); clear hB hB2 KK hT c0 r0 r1 r2; have t0 := TB3.out.cell 0; have t1 := TB3.out.free 0; have t2 := TB3.out.lt; have n0 := NB.out.cell 0))
          go_roundw
          case rel => exact ⟨k + 1, a4, k4, nx, by omega, by omega, by go_num, HCX, Lib.hid (RB3.out.other (by omega) _), Lib.hid (TB3.out.set 0 (by simp) _), Lib.hid (reads_box_set RT3.out TB3.out _), Lib.hid (B3.out.setCell (p := ⟨w.heap.size + 1, 0, none⟩) (by simp) _)⟩
          case measure => simp [intOf]; omega
        · have HM := Lib.hid hm
          have HS : Hid (nmN x = ⟨#[65, 49]⟩) := Lib.hid (nm_at (k := 10) hm)
          have HP := Lib.hid (put1_ok2 (s := ⟨#[65, 49]⟩) HO1.out hO2 (u_check (s := ⟨#[65, 49]⟩) (by rw [← HS.out]; exact nm_mem x)))
          have hl4 : (put1 cur ⟨#[65, 49]⟩).length ≤ 100 := by have := put1_len cur ⟨#[65, 49]⟩; omega
          have KA := (below2 wr (.cells #[.int .u8 97] 5) (.cells #[.int .u8 65] 5))
          have RA := Lib.hid (RT.out.below KA)
          have RBA := Lib.hid (RB.out.below KA)
          have TBA := Lib.hid (TB.out.below KA)
          have BA := Lib.hid (below_then B.out KA)
          have HCX : Hid (put1 cur ⟨#[65, 49]⟩ = putAll [] ((namesN nums).take (k + 1))) := Lib.hid (by rw [HNX.out, HS.out])
          have v1 := conv1n 97 ⟨#[97]⟩ (by kernel_rfl)
          have v2 : (convert 87 9 (.slice (some ⟨wr.heap.size + 1, 0, none⟩) 1 1)).run Try.prog ((wr.alloc (.cells #[.int .u8 97] 5)).alloc (.cells #[.int .u8 65] 5)) = .ok (.string ⟨#[65]⟩) ((wr.alloc (.cells #[.int .u8 97] 5)).alloc (.cells #[.int .u8 65] 5)) := by simpa using conv1n 65 ⟨#[65]⟩ (by kernel_rfl) (wr.alloc (.cells #[.int .u8 97] 5))
          have v3 : (⟨#[65]⟩ : ByteArray) ++ ⟨#[49]⟩ = ⟨#[65, 49]⟩ := by kernel_rfl
          clear hm HS HO1 HCU KA HNX
          go_wp2_with (first
            | (go_at_call 39; refine (mod_any x 20 h1 h2 (by decide) (by decide) _).mono ?_; rintro e w9 ⟨rfl, rfl⟩; rw [HM.out])
            | (go_at_call 17; refine (pintern_any va vk cur ⟨#[65, 49]⟩ (put1 cur ⟨#[65, 49]⟩) (ix cur ⟨#[65, 49]⟩) 0 _ (by omega) hHS (by decide) RA HP).mono ?_; rintro e w3 ⟨V, Bo, rfl, _, hT, hB⟩; generalize put1 cur ⟨#[65, 49]⟩ = nx at *; obtain ⟨a4, k4, rfl⟩ := tab_shape hT; have KK := (Below.refl w3.heap.size w3).alloc (Nat.le_refl _) (.cells #[.slice a4 nx.length k4] 24); have hB2 := hB.trans (KK.mono hB.size); have RB3 := Lib.hid (RBA.out.below hB2); have TB3 := Lib.hid (TBA.out.below hB2); have RT3 := Lib.hid (hT.reads.below KK); have B3 := Lib.hid (below_then BA.out hB2); have NB := Lib.hid (Box.new w3 24 #[.slice a4 nx.length k4]); clear hB hB2 KK hT c0 r0 r1 r2; have t0 := TB3.out.cell 0; have t1 := TB3.out.free 0; have t2 := TB3.out.lt; have n0 := NB.out.cell 0))
          go_roundw
          case rel => exact ⟨k + 1, a4, k4, nx, by omega, by omega, by go_num, HCX, Lib.hid (RB3.out.other (by omega) _), Lib.hid (TB3.out.set 0 (by simp) _), Lib.hid (reads_box_set RT3.out TB3.out _), Lib.hid (B3.out.setCell (p := ⟨w.heap.size + 1, 0, none⟩) (by simp) _)⟩
          case measure => simp [intOf]; omega
        · have HM := Lib.hid hm
          have HS : Hid (nmN x = ⟨#[66, 49]⟩) := Lib.hid (nm_at (k := 11) hm)
          have HP := Lib.hid (put1_ok2 (s := ⟨#[66, 49]⟩) HO1.out hO2 (u_check (s := ⟨#[66, 49]⟩) (by rw [← HS.out]; exact nm_mem x)))
          have hl4 : (put1 cur ⟨#[66, 49]⟩).length ≤ 100 := by have := put1_len cur ⟨#[66, 49]⟩; omega
          have KA := (below2 wr (.cells #[.int .u8 98] 5) (.cells #[.int .u8 66] 5))
          have RA := Lib.hid (RT.out.below KA)
          have RBA := Lib.hid (RB.out.below KA)
          have TBA := Lib.hid (TB.out.below KA)
          have BA := Lib.hid (below_then B.out KA)
          have HCX : Hid (put1 cur ⟨#[66, 49]⟩ = putAll [] ((namesN nums).take (k + 1))) := Lib.hid (by rw [HNX.out, HS.out])
          have v1 := conv1n 98 ⟨#[98]⟩ (by kernel_rfl)
          have v2 : (convert 87 9 (.slice (some ⟨wr.heap.size + 1, 0, none⟩) 1 1)).run Try.prog ((wr.alloc (.cells #[.int .u8 98] 5)).alloc (.cells #[.int .u8 66] 5)) = .ok (.string ⟨#[66]⟩) ((wr.alloc (.cells #[.int .u8 98] 5)).alloc (.cells #[.int .u8 66] 5)) := by simpa using conv1n 66 ⟨#[66]⟩ (by kernel_rfl) (wr.alloc (.cells #[.int .u8 98] 5))
          have v3 : (⟨#[66]⟩ : ByteArray) ++ ⟨#[49]⟩ = ⟨#[66, 49]⟩ := by kernel_rfl
          clear hm HS HO1 HCU KA HNX
          go_wp2_with (first
            | (go_at_call 39; refine (mod_any x 20 h1 h2 (by decide) (by decide) _).mono ?_; rintro e w9 ⟨rfl, rfl⟩; rw [HM.out])
            | (go_at_call 17; refine (pintern_any va vk cur ⟨#[66, 49]⟩ (put1 cur ⟨#[66, 49]⟩) (ix cur ⟨#[66, 49]⟩) 0 _ (by omega) hHS (by decide) RA HP).mono ?_; rintro e w3 ⟨V, Bo, rfl, _, hT, hB⟩; generalize put1 cur ⟨#[66, 49]⟩ = nx at *; obtain ⟨a4, k4, rfl⟩ := tab_shape hT; have KK := (Below.refl w3.heap.size w3).alloc (Nat.le_refl _) (.cells #[.slice a4 nx.length k4] 24); have hB2 := hB.trans (KK.mono hB.size); have RB3 := Lib.hid (RBA.out.below hB2); have TB3 := Lib.hid (TBA.out.below hB2); have RT3 := Lib.hid (hT.reads.below KK); have B3 := Lib.hid (below_then BA.out hB2); have NB := Lib.hid (Box.new w3 24 #[.slice a4 nx.length k4]); clear hB hB2 KK hT c0 r0 r1 r2; have t0 := TB3.out.cell 0; have t1 := TB3.out.free 0; have t2 := TB3.out.lt; have n0 := NB.out.cell 0))
          go_roundw
          case rel => exact ⟨k + 1, a4, k4, nx, by omega, by omega, by go_num, HCX, Lib.hid (RB3.out.other (by omega) _), Lib.hid (TB3.out.set 0 (by simp) _), Lib.hid (reads_box_set RT3.out TB3.out _), Lib.hid (B3.out.setCell (p := ⟨w.heap.size + 1, 0, none⟩) (by simp) _)⟩
          case measure => simp [intOf]; omega
        · have HM := Lib.hid hm
          have HS : Hid (nmN x = ⟨#[67, 49]⟩) := Lib.hid (nm_at (k := 12) hm)
          have HP := Lib.hid (put1_ok2 (s := ⟨#[67, 49]⟩) HO1.out hO2 (u_check (s := ⟨#[67, 49]⟩) (by rw [← HS.out]; exact nm_mem x)))
          have hl4 : (put1 cur ⟨#[67, 49]⟩).length ≤ 100 := by have := put1_len cur ⟨#[67, 49]⟩; omega
          have KA := (below2 wr (.cells #[.int .u8 99] 5) (.cells #[.int .u8 67] 5))
          have RA := Lib.hid (RT.out.below KA)
          have RBA := Lib.hid (RB.out.below KA)
          have TBA := Lib.hid (TB.out.below KA)
          have BA := Lib.hid (below_then B.out KA)
          have HCX : Hid (put1 cur ⟨#[67, 49]⟩ = putAll [] ((namesN nums).take (k + 1))) := Lib.hid (by rw [HNX.out, HS.out])
          have v1 := conv1n 99 ⟨#[99]⟩ (by kernel_rfl)
          have v2 : (convert 87 9 (.slice (some ⟨wr.heap.size + 1, 0, none⟩) 1 1)).run Try.prog ((wr.alloc (.cells #[.int .u8 99] 5)).alloc (.cells #[.int .u8 67] 5)) = .ok (.string ⟨#[67]⟩) ((wr.alloc (.cells #[.int .u8 99] 5)).alloc (.cells #[.int .u8 67] 5)) := by simpa using conv1n 67 ⟨#[67]⟩ (by kernel_rfl) (wr.alloc (.cells #[.int .u8 99] 5))
          have v3 : (⟨#[67]⟩ : ByteArray) ++ ⟨#[49]⟩ = ⟨#[67, 49]⟩ := by kernel_rfl
          clear hm HS HO1 HCU KA HNX
          go_wp2_with (first
            | (go_at_call 39; refine (mod_any x 20 h1 h2 (by decide) (by decide) _).mono ?_; rintro e w9 ⟨rfl, rfl⟩; rw [HM.out])
            | (go_at_call 17; refine (pintern_any va vk cur ⟨#[67, 49]⟩ (put1 cur ⟨#[67, 49]⟩) (ix cur ⟨#[67, 49]⟩) 0 _ (by omega) hHS (by decide) RA HP).mono ?_; rintro e w3 ⟨V, Bo, rfl, _, hT, hB⟩; generalize put1 cur ⟨#[67, 49]⟩ = nx at *; obtain ⟨a4, k4, rfl⟩ := tab_shape hT; have KK := (Below.refl w3.heap.size w3).alloc (Nat.le_refl _) (.cells #[.slice a4 nx.length k4] 24); have hB2 := hB.trans (KK.mono hB.size); have RB3 := Lib.hid (RBA.out.below hB2); have TB3 := Lib.hid (TBA.out.below hB2); have RT3 := Lib.hid (hT.reads.below KK); have B3 := Lib.hid (below_then BA.out hB2); have NB := Lib.hid (Box.new w3 24 #[.slice a4 nx.length k4]); clear hB hB2 KK hT c0 r0 r1 r2; have t0 := TB3.out.cell 0; have t1 := TB3.out.free 0; have t2 := TB3.out.lt; have n0 := NB.out.cell 0))
          go_roundw
          case rel => exact ⟨k + 1, a4, k4, nx, by omega, by omega, by go_num, HCX, Lib.hid (RB3.out.other (by omega) _), Lib.hid (TB3.out.set 0 (by simp) _), Lib.hid (reads_box_set RT3.out TB3.out _), Lib.hid (B3.out.setCell (p := ⟨w.heap.size + 1, 0, none⟩) (by simp) _)⟩
          case measure => simp [intOf]; omega
        · have HM := Lib.hid hm
          have HS : Hid (nmN x = ⟨#[68, 49]⟩) := Lib.hid (nm_at (k := 13) hm)
          have HP := Lib.hid (put1_ok2 (s := ⟨#[68, 49]⟩) HO1.out hO2 (u_check (s := ⟨#[68, 49]⟩) (by rw [← HS.out]; exact nm_mem x)))
          have hl4 : (put1 cur ⟨#[68, 49]⟩).length ≤ 100 := by have := put1_len cur ⟨#[68, 49]⟩; omega
          have KA := (below2 wr (.cells #[.int .u8 100] 5) (.cells #[.int .u8 68] 5))
          have RA := Lib.hid (RT.out.below KA)
          have RBA := Lib.hid (RB.out.below KA)
          have TBA := Lib.hid (TB.out.below KA)
          have BA := Lib.hid (below_then B.out KA)
          have HCX : Hid (put1 cur ⟨#[68, 49]⟩ = putAll [] ((namesN nums).take (k + 1))) := Lib.hid (by rw [HNX.out, HS.out])
          have v1 := conv1n 100 ⟨#[100]⟩ (by kernel_rfl)
          have v2 : (convert 87 9 (.slice (some ⟨wr.heap.size + 1, 0, none⟩) 1 1)).run Try.prog ((wr.alloc (.cells #[.int .u8 100] 5)).alloc (.cells #[.int .u8 68] 5)) = .ok (.string ⟨#[68]⟩) ((wr.alloc (.cells #[.int .u8 100] 5)).alloc (.cells #[.int .u8 68] 5)) := by simpa using conv1n 68 ⟨#[68]⟩ (by kernel_rfl) (wr.alloc (.cells #[.int .u8 100] 5))
          have v3 : (⟨#[68]⟩ : ByteArray) ++ ⟨#[49]⟩ = ⟨#[68, 49]⟩ := by kernel_rfl
          clear hm HS HO1 HCU KA HNX
          go_wp2_with (first
            | (go_at_call 39; refine (mod_any x 20 h1 h2 (by decide) (by decide) _).mono ?_; rintro e w9 ⟨rfl, rfl⟩; rw [HM.out])
            | (go_at_call 17; refine (pintern_any va vk cur ⟨#[68, 49]⟩ (put1 cur ⟨#[68, 49]⟩) (ix cur ⟨#[68, 49]⟩) 0 _ (by omega) hHS (by decide) RA HP).mono ?_; rintro e w3 ⟨V, Bo, rfl, _, hT, hB⟩; generalize put1 cur ⟨#[68, 49]⟩ = nx at *; obtain ⟨a4, k4, rfl⟩ := tab_shape hT; have KK := (Below.refl w3.heap.size w3).alloc (Nat.le_refl _) (.cells #[.slice a4 nx.length k4] 24); have hB2 := hB.trans (KK.mono hB.size); have RB3 := Lib.hid (RBA.out.below hB2); have TB3 := Lib.hid (TBA.out.below hB2); have RT3 := Lib.hid (hT.reads.below KK); have B3 := Lib.hid (below_then BA.out hB2); have NB := Lib.hid (Box.new w3 24 #[.slice a4 nx.length k4]); clear hB hB2 KK hT c0 r0 r1 r2; have t0 := TB3.out.cell 0; have t1 := TB3.out.free 0; have t2 := TB3.out.lt; have n0 := NB.out.cell 0))
          go_roundw
          case rel => exact ⟨k + 1, a4, k4, nx, by omega, by omega, by go_num, HCX, Lib.hid (RB3.out.other (by omega) _), Lib.hid (TB3.out.set 0 (by simp) _), Lib.hid (reads_box_set RT3.out TB3.out _), Lib.hid (B3.out.setCell (p := ⟨w.heap.size + 1, 0, none⟩) (by simp) _)⟩
          case measure => simp [intOf]; omega
        · have HM := Lib.hid hm
          have HS : Hid (nmN x = ⟨#[69, 49]⟩) := Lib.hid (nm_at (k := 14) hm)
          have HP := Lib.hid (put1_ok2 (s := ⟨#[69, 49]⟩) HO1.out hO2 (u_check (s := ⟨#[69, 49]⟩) (by rw [← HS.out]; exact nm_mem x)))
          have hl4 : (put1 cur ⟨#[69, 49]⟩).length ≤ 100 := by have := put1_len cur ⟨#[69, 49]⟩; omega
          have KA := (below2 wr (.cells #[.int .u8 101] 5) (.cells #[.int .u8 69] 5))
          have RA := Lib.hid (RT.out.below KA)
          have RBA := Lib.hid (RB.out.below KA)
          have TBA := Lib.hid (TB.out.below KA)
          have BA := Lib.hid (below_then B.out KA)
          have HCX : Hid (put1 cur ⟨#[69, 49]⟩ = putAll [] ((namesN nums).take (k + 1))) := Lib.hid (by rw [HNX.out, HS.out])
          have v1 := conv1n 101 ⟨#[101]⟩ (by kernel_rfl)
          have v2 : (convert 87 9 (.slice (some ⟨wr.heap.size + 1, 0, none⟩) 1 1)).run Try.prog ((wr.alloc (.cells #[.int .u8 101] 5)).alloc (.cells #[.int .u8 69] 5)) = .ok (.string ⟨#[69]⟩) ((wr.alloc (.cells #[.int .u8 101] 5)).alloc (.cells #[.int .u8 69] 5)) := by simpa using conv1n 69 ⟨#[69]⟩ (by kernel_rfl) (wr.alloc (.cells #[.int .u8 101] 5))
          have v3 : (⟨#[69]⟩ : ByteArray) ++ ⟨#[49]⟩ = ⟨#[69, 49]⟩ := by kernel_rfl
          clear hm HS HO1 HCU KA HNX
          go_wp2_with (first
            | (go_at_call 39; refine (mod_any x 20 h1 h2 (by decide) (by decide) _).mono ?_; rintro e w9 ⟨rfl, rfl⟩; rw [HM.out])
            | (go_at_call 17; refine (pintern_any va vk cur ⟨#[69, 49]⟩ (put1 cur ⟨#[69, 49]⟩) (ix cur ⟨#[69, 49]⟩) 0 _ (by omega) hHS (by decide) RA HP).mono ?_; rintro e w3 ⟨V, Bo, rfl, _, hT, hB⟩; generalize put1 cur ⟨#[69, 49]⟩ = nx at *; obtain ⟨a4, k4, rfl⟩ := tab_shape hT; have KK := (Below.refl w3.heap.size w3).alloc (Nat.le_refl _) (.cells #[.slice a4 nx.length k4] 24); have hB2 := hB.trans (KK.mono hB.size); have RB3 := Lib.hid (RBA.out.below hB2); have TB3 := Lib.hid (TBA.out.below hB2); have RT3 := Lib.hid (hT.reads.below KK); have B3 := Lib.hid (below_then BA.out hB2); have NB := Lib.hid (Box.new w3 24 #[.slice a4 nx.length k4]); clear hB hB2 KK hT c0 r0 r1 r2; have t0 := TB3.out.cell 0; have t1 := TB3.out.free 0; have t2 := TB3.out.lt; have n0 := NB.out.cell 0))
          go_roundw
          case rel => exact ⟨k + 1, a4, k4, nx, by omega, by omega, by go_num, HCX, Lib.hid (RB3.out.other (by omega) _), Lib.hid (TB3.out.set 0 (by simp) _), Lib.hid (reads_box_set RT3.out TB3.out _), Lib.hid (B3.out.setCell (p := ⟨w.heap.size + 1, 0, none⟩) (by simp) _)⟩
          case measure => simp [intOf]; omega
        · have HM := Lib.hid hm
          have HS : Hid (nmN x = ⟨#[70, 49]⟩) := Lib.hid (nm_at (k := 15) hm)
          have HP := Lib.hid (put1_ok2 (s := ⟨#[70, 49]⟩) HO1.out hO2 (u_check (s := ⟨#[70, 49]⟩) (by rw [← HS.out]; exact nm_mem x)))
          have hl4 : (put1 cur ⟨#[70, 49]⟩).length ≤ 100 := by have := put1_len cur ⟨#[70, 49]⟩; omega
          have KA := (below2 wr (.cells #[.int .u8 102] 5) (.cells #[.int .u8 70] 5))
          have RA := Lib.hid (RT.out.below KA)
          have RBA := Lib.hid (RB.out.below KA)
          have TBA := Lib.hid (TB.out.below KA)
          have BA := Lib.hid (below_then B.out KA)
          have HCX : Hid (put1 cur ⟨#[70, 49]⟩ = putAll [] ((namesN nums).take (k + 1))) := Lib.hid (by rw [HNX.out, HS.out])
          have v1 := conv1n 102 ⟨#[102]⟩ (by kernel_rfl)
          have v2 : (convert 87 9 (.slice (some ⟨wr.heap.size + 1, 0, none⟩) 1 1)).run Try.prog ((wr.alloc (.cells #[.int .u8 102] 5)).alloc (.cells #[.int .u8 70] 5)) = .ok (.string ⟨#[70]⟩) ((wr.alloc (.cells #[.int .u8 102] 5)).alloc (.cells #[.int .u8 70] 5)) := by simpa using conv1n 70 ⟨#[70]⟩ (by kernel_rfl) (wr.alloc (.cells #[.int .u8 102] 5))
          have v3 : (⟨#[70]⟩ : ByteArray) ++ ⟨#[49]⟩ = ⟨#[70, 49]⟩ := by kernel_rfl
          clear hm HS HO1 HCU KA HNX
          go_wp2_with (first
            | (go_at_call 39; refine (mod_any x 20 h1 h2 (by decide) (by decide) _).mono ?_; rintro e w9 ⟨rfl, rfl⟩; rw [HM.out])
            | (go_at_call 17; refine (pintern_any va vk cur ⟨#[70, 49]⟩ (put1 cur ⟨#[70, 49]⟩) (ix cur ⟨#[70, 49]⟩) 0 _ (by omega) hHS (by decide) RA HP).mono ?_; rintro e w3 ⟨V, Bo, rfl, _, hT, hB⟩; generalize put1 cur ⟨#[70, 49]⟩ = nx at *; obtain ⟨a4, k4, rfl⟩ := tab_shape hT; have KK := (Below.refl w3.heap.size w3).alloc (Nat.le_refl _) (.cells #[.slice a4 nx.length k4] 24); have hB2 := hB.trans (KK.mono hB.size); have RB3 := Lib.hid (RBA.out.below hB2); have TB3 := Lib.hid (TBA.out.below hB2); have RT3 := Lib.hid (hT.reads.below KK); have B3 := Lib.hid (below_then BA.out hB2); have NB := Lib.hid (Box.new w3 24 #[.slice a4 nx.length k4]); clear hB hB2 KK hT c0 r0 r1 r2; have t0 := TB3.out.cell 0; have t1 := TB3.out.free 0; have t2 := TB3.out.lt; have n0 := NB.out.cell 0))
          go_roundw
          case rel => exact ⟨k + 1, a4, k4, nx, by omega, by omega, by go_num, HCX, Lib.hid (RB3.out.other (by omega) _), Lib.hid (TB3.out.set 0 (by simp) _), Lib.hid (reads_box_set RT3.out TB3.out _), Lib.hid (B3.out.setCell (p := ⟨w.heap.size + 1, 0, none⟩) (by simp) _)⟩
          case measure => simp [intOf]; omega
        · have HM := Lib.hid hm
          have HS : Hid (nmN x = ⟨#[71, 49]⟩) := Lib.hid (nm_at (k := 16) hm)
          have HP := Lib.hid (put1_ok2 (s := ⟨#[71, 49]⟩) HO1.out hO2 (u_check (s := ⟨#[71, 49]⟩) (by rw [← HS.out]; exact nm_mem x)))
          have hl4 : (put1 cur ⟨#[71, 49]⟩).length ≤ 100 := by have := put1_len cur ⟨#[71, 49]⟩; omega
          have KA := (below2 wr (.cells #[.int .u8 103] 5) (.cells #[.int .u8 71] 5))
          have RA := Lib.hid (RT.out.below KA)
          have RBA := Lib.hid (RB.out.below KA)
          have TBA := Lib.hid (TB.out.below KA)
          have BA := Lib.hid (below_then B.out KA)
          have HCX : Hid (put1 cur ⟨#[71, 49]⟩ = putAll [] ((namesN nums).take (k + 1))) := Lib.hid (by rw [HNX.out, HS.out])
          have v1 := conv1n 103 ⟨#[103]⟩ (by kernel_rfl)
          have v2 : (convert 87 9 (.slice (some ⟨wr.heap.size + 1, 0, none⟩) 1 1)).run Try.prog ((wr.alloc (.cells #[.int .u8 103] 5)).alloc (.cells #[.int .u8 71] 5)) = .ok (.string ⟨#[71]⟩) ((wr.alloc (.cells #[.int .u8 103] 5)).alloc (.cells #[.int .u8 71] 5)) := by simpa using conv1n 71 ⟨#[71]⟩ (by kernel_rfl) (wr.alloc (.cells #[.int .u8 103] 5))
          have v3 : (⟨#[71]⟩ : ByteArray) ++ ⟨#[49]⟩ = ⟨#[71, 49]⟩ := by kernel_rfl
          clear hm HS HO1 HCU KA HNX
          go_wp2_with (first
            | (go_at_call 39; refine (mod_any x 20 h1 h2 (by decide) (by decide) _).mono ?_; rintro e w9 ⟨rfl, rfl⟩; rw [HM.out])
            | (go_at_call 17; refine (pintern_any va vk cur ⟨#[71, 49]⟩ (put1 cur ⟨#[71, 49]⟩) (ix cur ⟨#[71, 49]⟩) 0 _ (by omega) hHS (by decide) RA HP).mono ?_; rintro e w3 ⟨V, Bo, rfl, _, hT, hB⟩; generalize put1 cur ⟨#[71, 49]⟩ = nx at *; obtain ⟨a4, k4, rfl⟩ := tab_shape hT; have KK := (Below.refl w3.heap.size w3).alloc (Nat.le_refl _) (.cells #[.slice a4 nx.length k4] 24); have hB2 := hB.trans (KK.mono hB.size); have RB3 := Lib.hid (RBA.out.below hB2); have TB3 := Lib.hid (TBA.out.below hB2); have RT3 := Lib.hid (hT.reads.below KK); have B3 := Lib.hid (below_then BA.out hB2); have NB := Lib.hid (Box.new w3 24 #[.slice a4 nx.length k4]); clear hB hB2 KK hT c0 r0 r1 r2; have t0 := TB3.out.cell 0; have t1 := TB3.out.free 0; have t2 := TB3.out.lt; have n0 := NB.out.cell 0))
          go_roundw
          case rel => exact ⟨k + 1, a4, k4, nx, by omega, by omega, by go_num, HCX, Lib.hid (RB3.out.other (by omega) _), Lib.hid (TB3.out.set 0 (by simp) _), Lib.hid (reads_box_set RT3.out TB3.out _), Lib.hid (B3.out.setCell (p := ⟨w.heap.size + 1, 0, none⟩) (by simp) _)⟩
          case measure => simp [intOf]; omega
        · have HM := Lib.hid hm
          have HS : Hid (nmN x = ⟨#[72, 49]⟩) := Lib.hid (nm_at (k := 17) hm)
          have HP := Lib.hid (put1_ok2 (s := ⟨#[72, 49]⟩) HO1.out hO2 (u_check (s := ⟨#[72, 49]⟩) (by rw [← HS.out]; exact nm_mem x)))
          have hl4 : (put1 cur ⟨#[72, 49]⟩).length ≤ 100 := by have := put1_len cur ⟨#[72, 49]⟩; omega
          have KA := (below2 wr (.cells #[.int .u8 104] 5) (.cells #[.int .u8 72] 5))
          have RA := Lib.hid (RT.out.below KA)
          have RBA := Lib.hid (RB.out.below KA)
          have TBA := Lib.hid (TB.out.below KA)
          have BA := Lib.hid (below_then B.out KA)
          have HCX : Hid (put1 cur ⟨#[72, 49]⟩ = putAll [] ((namesN nums).take (k + 1))) := Lib.hid (by rw [HNX.out, HS.out])
          have v1 := conv1n 104 ⟨#[104]⟩ (by kernel_rfl)
          have v2 : (convert 87 9 (.slice (some ⟨wr.heap.size + 1, 0, none⟩) 1 1)).run Try.prog ((wr.alloc (.cells #[.int .u8 104] 5)).alloc (.cells #[.int .u8 72] 5)) = .ok (.string ⟨#[72]⟩) ((wr.alloc (.cells #[.int .u8 104] 5)).alloc (.cells #[.int .u8 72] 5)) := by simpa using conv1n 72 ⟨#[72]⟩ (by kernel_rfl) (wr.alloc (.cells #[.int .u8 104] 5))
          have v3 : (⟨#[72]⟩ : ByteArray) ++ ⟨#[49]⟩ = ⟨#[72, 49]⟩ := by kernel_rfl
          clear hm HS HO1 HCU KA HNX
          go_wp2_with (first
            | (go_at_call 39; refine (mod_any x 20 h1 h2 (by decide) (by decide) _).mono ?_; rintro e w9 ⟨rfl, rfl⟩; rw [HM.out])
            | (go_at_call 17; refine (pintern_any va vk cur ⟨#[72, 49]⟩ (put1 cur ⟨#[72, 49]⟩) (ix cur ⟨#[72, 49]⟩) 0 _ (by omega) hHS (by decide) RA HP).mono ?_; rintro e w3 ⟨V, Bo, rfl, _, hT, hB⟩; generalize put1 cur ⟨#[72, 49]⟩ = nx at *; obtain ⟨a4, k4, rfl⟩ := tab_shape hT; have KK := (Below.refl w3.heap.size w3).alloc (Nat.le_refl _) (.cells #[.slice a4 nx.length k4] 24); have hB2 := hB.trans (KK.mono hB.size); have RB3 := Lib.hid (RBA.out.below hB2); have TB3 := Lib.hid (TBA.out.below hB2); have RT3 := Lib.hid (hT.reads.below KK); have B3 := Lib.hid (below_then BA.out hB2); have NB := Lib.hid (Box.new w3 24 #[.slice a4 nx.length k4]); clear hB hB2 KK hT c0 r0 r1 r2; have t0 := TB3.out.cell 0; have t1 := TB3.out.free 0; have t2 := TB3.out.lt; have n0 := NB.out.cell 0))
          go_roundw
          case rel => exact ⟨k + 1, a4, k4, nx, by omega, by omega, by go_num, HCX, Lib.hid (RB3.out.other (by omega) _), Lib.hid (TB3.out.set 0 (by simp) _), Lib.hid (reads_box_set RT3.out TB3.out _), Lib.hid (B3.out.setCell (p := ⟨w.heap.size + 1, 0, none⟩) (by simp) _)⟩
          case measure => simp [intOf]; omega
        · have HM := Lib.hid hm
          have HS : Hid (nmN x = ⟨#[73, 49]⟩) := Lib.hid (nm_at (k := 18) hm)
          have HP := Lib.hid (put1_ok2 (s := ⟨#[73, 49]⟩) HO1.out hO2 (u_check (s := ⟨#[73, 49]⟩) (by rw [← HS.out]; exact nm_mem x)))
          have hl4 : (put1 cur ⟨#[73, 49]⟩).length ≤ 100 := by have := put1_len cur ⟨#[73, 49]⟩; omega
          have KA := (below2 wr (.cells #[.int .u8 105] 5) (.cells #[.int .u8 73] 5))
          have RA := Lib.hid (RT.out.below KA)
          have RBA := Lib.hid (RB.out.below KA)
          have TBA := Lib.hid (TB.out.below KA)
          have BA := Lib.hid (below_then B.out KA)
          have HCX : Hid (put1 cur ⟨#[73, 49]⟩ = putAll [] ((namesN nums).take (k + 1))) := Lib.hid (by rw [HNX.out, HS.out])
          have v1 := conv1n 105 ⟨#[105]⟩ (by kernel_rfl)
          have v2 : (convert 87 9 (.slice (some ⟨wr.heap.size + 1, 0, none⟩) 1 1)).run Try.prog ((wr.alloc (.cells #[.int .u8 105] 5)).alloc (.cells #[.int .u8 73] 5)) = .ok (.string ⟨#[73]⟩) ((wr.alloc (.cells #[.int .u8 105] 5)).alloc (.cells #[.int .u8 73] 5)) := by simpa using conv1n 73 ⟨#[73]⟩ (by kernel_rfl) (wr.alloc (.cells #[.int .u8 105] 5))
          have v3 : (⟨#[73]⟩ : ByteArray) ++ ⟨#[49]⟩ = ⟨#[73, 49]⟩ := by kernel_rfl
          clear hm HS HO1 HCU KA HNX
          go_wp2_with (first
            | (go_at_call 39; refine (mod_any x 20 h1 h2 (by decide) (by decide) _).mono ?_; rintro e w9 ⟨rfl, rfl⟩; rw [HM.out])
            | (go_at_call 17; refine (pintern_any va vk cur ⟨#[73, 49]⟩ (put1 cur ⟨#[73, 49]⟩) (ix cur ⟨#[73, 49]⟩) 0 _ (by omega) hHS (by decide) RA HP).mono ?_; rintro e w3 ⟨V, Bo, rfl, _, hT, hB⟩; generalize put1 cur ⟨#[73, 49]⟩ = nx at *; obtain ⟨a4, k4, rfl⟩ := tab_shape hT; have KK := (Below.refl w3.heap.size w3).alloc (Nat.le_refl _) (.cells #[.slice a4 nx.length k4] 24); have hB2 := hB.trans (KK.mono hB.size); have RB3 := Lib.hid (RBA.out.below hB2); have TB3 := Lib.hid (TBA.out.below hB2); have RT3 := Lib.hid (hT.reads.below KK); have B3 := Lib.hid (below_then BA.out hB2); have NB := Lib.hid (Box.new w3 24 #[.slice a4 nx.length k4]); clear hB hB2 KK hT c0 r0 r1 r2; have t0 := TB3.out.cell 0; have t1 := TB3.out.free 0; have t2 := TB3.out.lt; have n0 := NB.out.cell 0))
          go_roundw
          case rel => exact ⟨k + 1, a4, k4, nx, by omega, by omega, by go_num, HCX, Lib.hid (RB3.out.other (by omega) _), Lib.hid (TB3.out.set 0 (by simp) _), Lib.hid (reads_box_set RT3.out TB3.out _), Lib.hid (B3.out.setCell (p := ⟨w.heap.size + 1, 0, none⟩) (by simp) _)⟩
          case measure => simp [intOf]; omega
        · have HM := Lib.hid hm
          have HS : Hid (nmN x = ⟨#[74, 49]⟩) := Lib.hid (nm_at (k := 19) hm)
          have HP := Lib.hid (put1_ok2 (s := ⟨#[74, 49]⟩) HO1.out hO2 (u_check (s := ⟨#[74, 49]⟩) (by rw [← HS.out]; exact nm_mem x)))
          have hl4 : (put1 cur ⟨#[74, 49]⟩).length ≤ 100 := by have := put1_len cur ⟨#[74, 49]⟩; omega
          have KA := (below2 wr (.cells #[.int .u8 106] 5) (.cells #[.int .u8 74] 5))
          have RA := Lib.hid (RT.out.below KA)
          have RBA := Lib.hid (RB.out.below KA)
          have TBA := Lib.hid (TB.out.below KA)
          have BA := Lib.hid (below_then B.out KA)
          have HCX : Hid (put1 cur ⟨#[74, 49]⟩ = putAll [] ((namesN nums).take (k + 1))) := Lib.hid (by rw [HNX.out, HS.out])
          have v1 := conv1n 106 ⟨#[106]⟩ (by kernel_rfl)
          have v2 : (convert 87 9 (.slice (some ⟨wr.heap.size + 1, 0, none⟩) 1 1)).run Try.prog ((wr.alloc (.cells #[.int .u8 106] 5)).alloc (.cells #[.int .u8 74] 5)) = .ok (.string ⟨#[74]⟩) ((wr.alloc (.cells #[.int .u8 106] 5)).alloc (.cells #[.int .u8 74] 5)) := by simpa using conv1n 74 ⟨#[74]⟩ (by kernel_rfl) (wr.alloc (.cells #[.int .u8 106] 5))
          have v3 : (⟨#[74]⟩ : ByteArray) ++ ⟨#[49]⟩ = ⟨#[74, 49]⟩ := by kernel_rfl
          clear hm HS HO1 HCU KA HNX
          go_wp2_with (first
            | (go_at_call 39; refine (mod_any x 20 h1 h2 (by decide) (by decide) _).mono ?_; rintro e w9 ⟨rfl, rfl⟩; rw [HM.out])
            | (go_at_call 17; refine (pintern_any va vk cur ⟨#[74, 49]⟩ (put1 cur ⟨#[74, 49]⟩) (ix cur ⟨#[74, 49]⟩) 0 _ (by omega) hHS (by decide) RA HP).mono ?_; rintro e w3 ⟨V, Bo, rfl, _, hT, hB⟩; generalize put1 cur ⟨#[74, 49]⟩ = nx at *; obtain ⟨a4, k4, rfl⟩ := tab_shape hT; have KK := (Below.refl w3.heap.size w3).alloc (Nat.le_refl _) (.cells #[.slice a4 nx.length k4] 24); have hB2 := hB.trans (KK.mono hB.size); have RB3 := Lib.hid (RBA.out.below hB2); have TB3 := Lib.hid (TBA.out.below hB2); have RT3 := Lib.hid (hT.reads.below KK); have B3 := Lib.hid (below_then BA.out hB2); have NB := Lib.hid (Box.new w3 24 #[.slice a4 nx.length k4]); clear hB hB2 KK hT c0 r0 r1 r2; have t0 := TB3.out.cell 0; have t1 := TB3.out.free 0; have t2 := TB3.out.lt; have n0 := NB.out.cell 0))
          go_roundw
          case rel => exact ⟨k + 1, a4, k4, nx, by omega, by omega, by go_num, HCX, Lib.hid (RB3.out.other (by omega) _), Lib.hid (TB3.out.set 0 (by simp) _), Lib.hid (reads_box_set RT3.out TB3.out _), Lib.hid (B3.out.setCell (p := ⟨w.heap.size + 1, 0, none⟩) (by simp) _)⟩
          case measure => simp [intOf]; omega
      · have hk3 : k = 30 := by omega
        subst hk3
        have HM : Hid (cur = madeN nums) := Lib.hid (by rw [HCU.out]; unfold madeN; rw [List.take_of_length_le (by rw [HN.out]; omega)])
        rw [HM.out] at TB RT
        clear c0
        have c0 := TB.out.cell 0
        go_wp2
        have d0 := (RB.out.set 0 (by simp) (.slice va (madeN nums).length vk)).cell 0
        exact bodyPost_ret (v := .tuple #[.agg #[.slice va (madeN nums).length vk], .bool true]) (by simp [results, Try.results38, go_sem, d0]) rfl ⟨_, _, rfl, reads_box_set RT.out RB.out _, B.out.setCell (p := ⟨w.heap.size, 0, none⟩) (by simp) _⟩
    · have hk3 : k = nums.length := by omega
      subst hk3
      have HM : Hid (cur = madeN nums) := Lib.hid (by rw [HCU.out]; unfold madeN; rw [List.take_of_length_le (by rw [HN.out]; omega)])
      rw [HM.out] at TB RT
      clear c0
      have c0 := TB.out.cell 0
      go_wp2
      have d0 := (RB.out.set 0 (by simp) (.slice va (madeN nums).length vk)).cell 0
      exact bodyPost_ret (v := .tuple #[.agg #[.slice va (madeN nums).length vk], .bool true]) (by simp [results, Try.results38, go_sem, d0]) rfl ⟨_, _, rfl, reads_box_set RT.out RB.out _, B.out.setCell (p := ⟨w.heap.size, 0, none⟩) (by simp) _⟩
end Go.Proofs.Ytndghjfgjkjbdaa.s06
