/-
  Layer 4: how a lexeme begins (of no program).
-/
import Derived.Test.YtjhmlmimgahnmaaDoorS04A
namespace Go.Proofs.YtjhmlmimgahnmaaDoor.s04
set_option linter.unusedVariables false
set_option linter.unusedSimpArgs false
open Go.RowKit
open kit

/-- where the bytes of a class end -/
def runAt (p : Nat → Bool) (s : ByteArray) (k : Nat) : Nat := k + ((s.data.toList.drop k).takeWhile fun c => p c.toNat).length
theorem run_end {p : Nat → Bool} {s : ByteArray} {k : Nat} (h : s.size ≤ k) : runAt p s k = k := by
  unfold runAt; rw [drop_end s k h]; rfl
theorem run_on {p : Nat → Bool} {s : ByteArray} {k : Nat} (h : k < s.size) (hp : p s[k].toNat = true) : runAt p s k = runAt p s (k + 1) := by
  unfold runAt
  rw [drop_at s k h, List.takeWhile_cons_of_pos (by simpa using hp)]
  simp; omega
theorem run_off {p : Nat → Bool} {s : ByteArray} {k : Nat} (h : k < s.size) (hp : p s[k].toNat = false) : runAt p s k = k := by
  unfold runAt
  rw [drop_at s k h, List.takeWhile_cons_of_neg (by simp [hp])]
  rfl
theorem run_ge (p : Nat → Bool) (s : ByteArray) (k : Nat) : k ≤ runAt p s k := by unfold runAt; omega
theorem run_le (p : Nat → Bool) (s : ByteArray) (k : Nat) (h : k ≤ s.size) : runAt p s k ≤ s.size := by
  unfold runAt
  have := (List.takeWhile_sublist (fun c : UInt8 => p c.toNat) (l := s.data.toList.drop k)).length_le
  have e : (s.data.toList.drop k).length = s.size - k := by simp
  omega
/-- the byte at a place, 0 behind the end -/
def atB (s : ByteArray) (k : Nat) : Nat := if h : k < s.size then s[k].toNat else 0
theorem at_in {s : ByteArray} {k : Nat} (h : k < s.size) : atB s k = s[k].toNat := dif_pos h
theorem at_out {s : ByteArray} {k : Nat} (h : s.size ≤ k) : atB s k = 0 := dif_neg (by omega)
/-- the kind and the length of the lexeme that begins a text -/
def begR (s : ByteArray) : Nat × Nat :=
  if signB (atB s 0) then (3, 1)
  else if letterB (atB s 0) then (1, runAt wordB s 1)
  else if digitB (atB s 0) then
    if (decide (atB s 0 = 48 ∧ 1 < runAt digitB s 1) || (letterB (atB s (runAt digitB s 1)) || atB s (runAt digitB s 1) == 95)) then (0, 0) else (2, runAt digitB s 1)
  else (0, 0)
theorem lexret {a a' : Nat} {t t' : ByteArray} (h1 : a' = a) (h2 : t' = t) : Ending.returned (.agg #[.int .i64 (a : Int), .string t, .int .i64 0]) = .returned (.agg #[.int .i64 (a' : Int), .string t', .int .i64 0]) := by rw [h1, h2]
theorem digit_letter {n : Nat} (h : letterB n = true) : digitB n = false := by
  unfold letterB at h
  unfold digitB
  rw [decide_eq_false_iff_not]
  have := of_decide_eq_true h
  omega
theorem empty_pre (s : ByteArray) : s.extract 0 0 = ByteArray.empty := by
  apply bytes_ext
  simp
set_option maxRecDepth 100000 in
set_option maxHeartbeats 2000000 in
theorem begins_any (s : ByteArray) (w : World) (h0 : 0 < s.size) (hs : s.size ≤ 9223372036854775806) :
    Calls Tryd.prog 24 #[.string s] w fun e w' => e = .returned (.agg #[.int .i64 ((begR s).1 : Nat), .string (s.extract 0 (begR s).2), .int .i64 0]) ∧ Below w.heap.size w w' := by
  have hb := s[0].toNat_lt
  cases hS : signB s[0].toNat
  · cases hL : letterB s[0].toNat
    · cases hD : digitB s[0].toNat
      · have HX : Hid (begR s = (0, 0)) := Lib.hid (by unfold begR; rw [at_in h0, hS, hL, hD]; rfl)
        go_enter Tryd.func24, Tryd.ntmps24
        go_wp2_with (first
          | (go_at_call 32; refine (sign_any _ hb _).mono ?_; rintro e w1 ⟨rfl, rfl⟩)
          | (go_at_call 33; refine (letter_any _ hb _).mono ?_; rintro e w1 ⟨rfl, rfl⟩)
          | (go_at_call 34; refine (digit_any _ hb _).mono ?_; rintro e w1 ⟨rfl, rfl⟩))
        refine bodyPost_ret (v := .agg #[.int .i64 (0 : Nat), .string ByteArray.empty, .int .i64 0]) (by simp [results, Tryd.results24, go_sem]; first | rfl | done) rfl ⟨lexret (by rw [HX.out]) (by rw [HX.out]; exact empty_pre s), (Below.refl _ _).alloc (Nat.le_refl _) _⟩
      · obtain ⟨n, hn⟩ : ∃ n, n = runAt digitB s 1 := ⟨_, rfl⟩
        have hn1 : 1 ≤ n := by rw [hn]; exact run_ge _ _ _
        have hn2 : n ≤ s.size := by rw [hn]; exact run_le _ _ _ h0
        have HN := Lib.hid hn
        have HB : Hid (begR s = if (decide (s[0].toNat = 48 ∧ 1 < n) || (letterB (atB s n) || atB s n == 95)) then (0, 0) else (2, n)) := Lib.hid (by unfold begR; rw [at_in h0, hS, hL, hD, ← hn]; rfl)
        clear hn
        go_enter Tryd.func24, Tryd.ntmps24
        go_wp2_with (first
          | (go_at_call 32; refine (sign_any _ hb _).mono ?_; rintro e w1 ⟨rfl, rfl⟩)
          | (go_at_call 33; refine (letter_any _ hb _).mono ?_; rintro e w1 ⟨rfl, rfl⟩)
          | (go_at_call 34; refine (digit_any _ hb _).mono ?_; rintro e w1 ⟨rfl, rfl⟩))
        go_loop [3] (fun i => ∃ k : Nat, 1 ≤ k ∧ k ≤ s.size ∧ i = .int .i64 k ∧ Hid (n = runAt digitB s k)) (fun i => s.size - (intOf i).toNat)
        case atStart => exact ⟨1, by omega, by omega, rfl, HN⟩
        case round =>
          obtain ⟨k, hk1, hk, rfl, HK⟩ := hrel
          by_cases hlt : k < s.size
          · have hbk := s[k].toNat_lt
            cases hDk : digitB s[k].toNat
            · have hnk : n = k := by rw [HK.out, run_off hlt hDk]
              subst hnk
              clear HK HN
              by_cases h48 : s[0].toNat = 48
              · have t48 : ((s[0].toNat : Int) == 48) = true := by rw [beq_iff_eq]; omega
                by_cases h1n : 1 < n
                · have HX : Hid (begR s = (0, 0)) := Lib.hid (by rw [HB.out, decide_eq_true (show s[0].toNat = 48 ∧ 1 < n from ⟨h48, h1n⟩)]; rfl)
                  clear h48
                  go_wp2_with (first
                    | (go_at_call 34; refine (digit_any _ hbk _).mono ?_; rintro e w1 ⟨rfl, rfl⟩))
                  refine bodyPost_ret (v := .agg #[.int .i64 (0 : Nat), .string ByteArray.empty, .int .i64 0]) (by simp [results, Tryd.results24, go_sem]; first | rfl | done) rfl ⟨lexret (by rw [HX.out]) (by rw [HX.out]; exact empty_pre s), (Below.refl _ _).alloc (Nat.le_refl _) _⟩

                · have hF : decide (s[0].toNat = 48 ∧ 1 < n) = false := decide_eq_false fun e => h1n e.2
                  clear h48
                  cases hLn : letterB s[n].toNat
                  · by_cases h95 : s[n].toNat = 95
                    · have HX : Hid (begR s = (0, 0)) := Lib.hid (by rw [HB.out, hF, at_in hlt, hLn, h95]; rfl)
                      have t95 : ((s[n].toNat : Int) == 95) = true := by rw [beq_iff_eq]; omega
                      clear hF h95
                      go_wp2_with (first
                        | (go_at_call 34; refine (digit_any _ hbk _).mono ?_; rintro e w1 ⟨rfl, rfl⟩)
                        | (go_at_call 33; refine (letter_any _ hbk _).mono ?_; rintro e w1 ⟨rfl, rfl⟩))
                      refine bodyPost_ret (v := .agg #[.int .i64 (0 : Nat), .string ByteArray.empty, .int .i64 0]) (by simp [results, Tryd.results24, go_sem]; first | rfl | done) rfl ⟨lexret (by rw [HX.out]) (by rw [HX.out]; exact empty_pre s), (Below.refl _ _).alloc (Nat.le_refl _) _⟩

                    · have HX : Hid (begR s = (2, n)) := Lib.hid (by rw [HB.out, hF, at_in hlt, hLn, beq_eq_false_iff_ne.2 h95]; rfl)
                      have t95 : ((s[n].toNat : Int) == 95) = false := by rw [beq_eq_false_iff_ne]; omega
                      clear hF h95
                      go_wp2_with (first
                        | (go_at_call 34; refine (digit_any _ hbk _).mono ?_; rintro e w1 ⟨rfl, rfl⟩)
                        | (go_at_call 33; refine (letter_any _ hbk _).mono ?_; rintro e w1 ⟨rfl, rfl⟩))
                      refine bodyPost_ret (v := .agg #[.int .i64 (2 : Nat), .string (s.extract 0 n), .int .i64 0]) (by simp [results, Tryd.results24, go_sem]; first | rfl | done) rfl ⟨lexret (by rw [HX.out]) (by rw [HX.out]), (Below.refl _ _).alloc (Nat.le_refl _) _⟩

                  · have HX : Hid (begR s = (0, 0)) := Lib.hid (by rw [HB.out, hF, at_in hlt, hLn]; rfl)
                    clear hF
                    go_wp2_with (first
                      | (go_at_call 34; refine (digit_any _ hbk _).mono ?_; rintro e w1 ⟨rfl, rfl⟩)
                      | (go_at_call 33; refine (letter_any _ hbk _).mono ?_; rintro e w1 ⟨rfl, rfl⟩))
                    refine bodyPost_ret (v := .agg #[.int .i64 (0 : Nat), .string ByteArray.empty, .int .i64 0]) (by simp [results, Tryd.results24, go_sem]; first | rfl | done) rfl ⟨lexret (by rw [HX.out]) (by rw [HX.out]; exact empty_pre s), (Below.refl _ _).alloc (Nat.le_refl _) _⟩

              · have t48 : ((s[0].toNat : Int) == 48) = false := by rw [beq_eq_false_iff_ne]; omega
                have hF : decide (s[0].toNat = 48 ∧ 1 < n) = false := decide_eq_false fun e => h48 e.1
                clear h48
                cases hLn : letterB s[n].toNat
                · by_cases h95 : s[n].toNat = 95
                  · have HX : Hid (begR s = (0, 0)) := Lib.hid (by rw [HB.out, hF, at_in hlt, hLn, h95]; rfl)
                    have t95 : ((s[n].toNat : Int) == 95) = true := by rw [beq_iff_eq]; omega
                    clear hF h95
                    go_wp2_with (first
                      | (go_at_call 34; refine (digit_any _ hbk _).mono ?_; rintro e w1 ⟨rfl, rfl⟩)
                      | (go_at_call 33; refine (letter_any _ hbk _).mono ?_; rintro e w1 ⟨rfl, rfl⟩))
                    refine bodyPost_ret (v := .agg #[.int .i64 (0 : Nat), .string ByteArray.empty, .int .i64 0]) (by simp [results, Tryd.results24, go_sem]; first | rfl | done) rfl ⟨lexret (by rw [HX.out]) (by rw [HX.out]; exact empty_pre s), (Below.refl _ _).alloc (Nat.le_refl _) _⟩

                  · have HX : Hid (begR s = (2, n)) := Lib.hid (by rw [HB.out, hF, at_in hlt, hLn, beq_eq_false_iff_ne.2 h95]; rfl)
                    have t95 : ((s[n].toNat : Int) == 95) = false := by rw [beq_eq_false_iff_ne]; omega
                    clear hF h95
                    go_wp2_with (first
                      | (go_at_call 34; refine (digit_any _ hbk _).mono ?_; rintro e w1 ⟨rfl, rfl⟩)
                      | (go_at_call 33; refine (letter_any _ hbk _).mono ?_; rintro e w1 ⟨rfl, rfl⟩))
                    refine bodyPost_ret (v := .agg #[.int .i64 (2 : Nat), .string (s.extract 0 n), .int .i64 0]) (by simp [results, Tryd.results24, go_sem]; first | rfl | done) rfl ⟨lexret (by rw [HX.out]) (by rw [HX.out]), (Below.refl _ _).alloc (Nat.le_refl _) _⟩

                · have HX : Hid (begR s = (0, 0)) := Lib.hid (by rw [HB.out, hF, at_in hlt, hLn]; rfl)
                  clear hF
                  go_wp2_with (first
                    | (go_at_call 34; refine (digit_any _ hbk _).mono ?_; rintro e w1 ⟨rfl, rfl⟩)
                    | (go_at_call 33; refine (letter_any _ hbk _).mono ?_; rintro e w1 ⟨rfl, rfl⟩))
                  refine bodyPost_ret (v := .agg #[.int .i64 (0 : Nat), .string ByteArray.empty, .int .i64 0]) (by simp [results, Tryd.results24, go_sem]; first | rfl | done) rfl ⟨lexret (by rw [HX.out]) (by rw [HX.out]; exact empty_pre s), (Below.refl _ _).alloc (Nat.le_refl _) _⟩
            · have HY : Hid (n = runAt digitB s (k + 1)) := Lib.hid (by rw [HK.out, run_on hlt hDk])
              clear HK
              go_wp2_with (go_at_call 34; refine (digit_any _ hbk _).mono ?_; rintro e w1 ⟨rfl, rfl⟩)
              go_round
              case rel => exact ⟨k + 1, by omega, by omega, by go_num, HY⟩
              case measure => simp [intOf]; omega
          · have hnk : n = k := by rw [HK.out, run_end (by omega)]
            subst hnk
            clear HK HN
            by_cases h48 : s[0].toNat = 48
            · have t48 : ((s[0].toNat : Int) == 48) = true := by rw [beq_iff_eq]; omega
              by_cases h1n : 1 < n
              · have HX : Hid (begR s = (0, 0)) := Lib.hid (by rw [HB.out, decide_eq_true (show s[0].toNat = 48 ∧ 1 < n from ⟨h48, h1n⟩)]; rfl)
                clear h48
                go_wp2
                refine bodyPost_ret (v := .agg #[.int .i64 (0 : Nat), .string ByteArray.empty, .int .i64 0]) (by simp [results, Tryd.results24, go_sem]; first | rfl | done) rfl ⟨lexret (by rw [HX.out]) (by rw [HX.out]; exact empty_pre s), (Below.refl _ _).alloc (Nat.le_refl _) _⟩

              · have hF : decide (s[0].toNat = 48 ∧ 1 < n) = false := decide_eq_false fun e => h1n e.2
                clear h48
                have HX : Hid (begR s = (2, n)) := Lib.hid (by rw [HB.out, hF, at_out (by omega)]; rfl)
                clear hF
                go_wp2
                refine bodyPost_ret (v := .agg #[.int .i64 (2 : Nat), .string (s.extract 0 n), .int .i64 0]) (by simp [results, Tryd.results24, go_sem]; first | rfl | done) rfl ⟨lexret (by rw [HX.out]) (by rw [HX.out]), (Below.refl _ _).alloc (Nat.le_refl _) _⟩

            · have t48 : ((s[0].toNat : Int) == 48) = false := by rw [beq_eq_false_iff_ne]; omega
              have hF : decide (s[0].toNat = 48 ∧ 1 < n) = false := decide_eq_false fun e => h48 e.1
              clear h48
              have HX : Hid (begR s = (2, n)) := Lib.hid (by rw [HB.out, hF, at_out (by omega)]; rfl)
              clear hF
              go_wp2
              refine bodyPost_ret (v := .agg #[.int .i64 (2 : Nat), .string (s.extract 0 n), .int .i64 0]) (by simp [results, Tryd.results24, go_sem]; first | rfl | done) rfl ⟨lexret (by rw [HX.out]) (by rw [HX.out]), (Below.refl _ _).alloc (Nat.le_refl _) _⟩
    · obtain ⟨n, hn⟩ : ∃ n, n = runAt wordB s 1 := ⟨_, rfl⟩
      have hn1 : 1 ≤ n := by rw [hn]; exact run_ge _ _ _
      have hn2 : n ≤ s.size := by rw [hn]; exact run_le _ _ _ h0
      have HN := Lib.hid hn
      have HX : Hid (begR s = (1, n)) := Lib.hid (by unfold begR; rw [at_in h0, hS, hL, ← hn]; rfl)
      clear hn
      go_enter Tryd.func24, Tryd.ntmps24
      go_wp2_with (first
        | (go_at_call 32; refine (sign_any _ hb _).mono ?_; rintro e w1 ⟨rfl, rfl⟩)
        | (go_at_call 33; refine (letter_any _ hb _).mono ?_; rintro e w1 ⟨rfl, rfl⟩))
      go_loop [3] (fun i => ∃ k : Nat, 1 ≤ k ∧ k ≤ s.size ∧ i = .int .i64 k ∧ Hid (n = runAt wordB s k)) (fun i => s.size - (intOf i).toNat)
      case atStart => exact ⟨1, by omega, by omega, rfl, HN⟩
      case round =>
        obtain ⟨k, hk1, hk, rfl, HK⟩ := hrel
        by_cases hlt : k < s.size
        · have hbk := s[k].toNat_lt
          cases hLk : letterB s[k].toNat
          · cases hDk : digitB s[k].toNat
            · by_cases h95 : s[k].toNat = 95
              · have t95 : ((s[k].toNat : Int) == 95) = true := by rw [beq_iff_eq]; omega
                have HY : Hid (n = runAt wordB s (k + 1)) := Lib.hid (by rw [HK.out, run_on hlt (by unfold wordB; rw [hLk, hDk, h95]; rfl)])
                clear HK h95
                go_wp2_with (first
                  | (go_at_call 33; refine (letter_any _ hbk _).mono ?_; rintro e w1 ⟨rfl, rfl⟩)
                  | (go_at_call 34; refine (digit_any _ hbk _).mono ?_; rintro e w1 ⟨rfl, rfl⟩))
                go_round
                case rel => exact ⟨k + 1, by omega, by omega, by go_num, HY⟩
                case measure => simp [intOf]; omega

              · have t95 : ((s[k].toNat : Int) == 95) = false := by rw [beq_eq_false_iff_ne]; omega
                have hnk : n = k := by rw [HK.out, run_off hlt (by unfold wordB; rw [hLk, hDk]; simpa using h95)]
                subst hnk
                clear HK h95
                go_wp2_with (first
                  | (go_at_call 33; refine (letter_any _ hbk _).mono ?_; rintro e w1 ⟨rfl, rfl⟩)
                  | (go_at_call 34; refine (digit_any _ hbk _).mono ?_; rintro e w1 ⟨rfl, rfl⟩))
                refine bodyPost_ret (v := .agg #[.int .i64 (1 : Nat), .string (s.extract 0 n), .int .i64 0]) (by simp [results, Tryd.results24, go_sem]; first | rfl | done) rfl ⟨lexret (by rw [HX.out]) (by rw [HX.out]), (Below.refl _ _).alloc (Nat.le_refl _) _⟩

            · have HY : Hid (n = runAt wordB s (k + 1)) := Lib.hid (by rw [HK.out, run_on hlt (by unfold wordB; rw [hLk, hDk]; rfl)])
              clear HK
              go_wp2_with (first
                | (go_at_call 33; refine (letter_any _ hbk _).mono ?_; rintro e w1 ⟨rfl, rfl⟩)
                | (go_at_call 34; refine (digit_any _ hbk _).mono ?_; rintro e w1 ⟨rfl, rfl⟩))
              go_round
              case rel => exact ⟨k + 1, by omega, by omega, by go_num, HY⟩
              case measure => simp [intOf]; omega

          · have HY : Hid (n = runAt wordB s (k + 1)) := Lib.hid (by rw [HK.out, run_on hlt (by unfold wordB; rw [hLk]; rfl)])
            clear HK
            go_wp2_with (first
              | (go_at_call 33; refine (letter_any _ hbk _).mono ?_; rintro e w1 ⟨rfl, rfl⟩))
            go_round
            case rel => exact ⟨k + 1, by omega, by omega, by go_num, HY⟩
            case measure => simp [intOf]; omega

        · have hnk : n = k := by rw [HK.out, run_end (by omega)]
          subst hnk
          clear HK
          go_wp2
          refine bodyPost_ret (v := .agg #[.int .i64 (1 : Nat), .string (s.extract 0 n), .int .i64 0]) (by simp [results, Tryd.results24, go_sem]; first | rfl | done) rfl ⟨lexret (by rw [HX.out]) (by rw [HX.out]), (Below.refl _ _).alloc (Nat.le_refl _) _⟩
  · have HX : Hid (begR s = (3, 1)) := Lib.hid (by unfold begR; rw [at_in h0, hS]; rfl)
    go_enter Tryd.func24, Tryd.ntmps24
    go_wp2_with (go_at_call 32; refine (sign_any _ hb _).mono ?_; rintro e w1 ⟨rfl, rfl⟩)
    refine bodyPost_ret (v := .agg #[.int .i64 (3 : Nat), .string (s.extract 0 1), .int .i64 0]) (by simp [results, Tryd.results24, go_sem]; first | rfl | done) rfl ⟨lexret (by rw [HX.out]) (by rw [HX.out]), (Below.refl _ _).alloc (Nat.le_refl _) _⟩
end Go.Proofs.YtjhmlmimgahnmaaDoor.s04
