/-
  Layer 3: names with numbers; the reference's decimal, Make, Fresh.
-/
import Derived.Test.YtabcggmmdjeobaaDoorS03B
namespace Go.Proofs.YtabcggmmdjeobaaDoor.s03
set_option linter.unusedVariables false
set_option linter.unusedSimpArgs false
open Go.RowKit
open kit

/-- the decimal digits of a number -/
def decD (n : Nat) : List UInt8 := if n < 10 then [UInt8.ofNat (48 + n)] else decD (n / 10) ++ [UInt8.ofNat (48 + n % 10)]
termination_by n
decreasing_by omega
def decS (n : Nat) : ByteArray := ⟨(decD n).toArray⟩
def tens : ByteArray := { data := #[48, 49, 50, 51, 52, 53, 54, 55, 56, 57] }
theorem tens_at (n : Nat) (h : n < 10) : tens.extract n (n + 1) = ⟨#[UInt8.ofNat (48 + n)]⟩ := by
  have : n = 0 ∨ n = 1 ∨ n = 2 ∨ n = 3 ∨ n = 4 ∨ n = 5 ∨ n = 6 ∨ n = 7 ∨ n = 8 ∨ n = 9 := by omega
  rcases this with rfl | rfl | rfl | rfl | rfl | rfl | rfl | rfl | rfl | rfl <;> decide
theorem decS_low {n : Nat} (h : n < 10) : tens.extract n (n + 1) = decS n := by
  rw [tens_at n h]
  unfold decS
  rw [decD, if_pos h]
theorem decS_high {n q r : Nat} (h : ¬ n < 10) (hq : n / 10 = q) (hr : n % 10 = r) : decS q ++ tens.extract r (r + 1) = decS n := by
  rw [tens_at r (by omega)]
  apply bytes_ext
  rw [ByteArray.data_append, Array.toList_append]
  show decD q ++ [UInt8.ofNat (48 + r)] = decD n
  rw [decD.eq_def n, if_neg h, hq, hr]
theorem decD_len : ∀ (k n : Nat), n < 10 ^ (k + 1) → (decD n).length ≤ k + 1 := by
  intro k
  induction k with
  | zero => intro n h; rw [decD, if_pos (by simpa using h)]; simp
  | succ k ih =>
    intro n h
    rw [decD]
    split
    · simp
    · have := ih (n / 10) (by rw [Nat.pow_succ] at h; omega)
      simp; omega
theorem decS_size {n : Nat} (h : n ≤ 9999) : (decS n).size ≤ 4 := by
  show (decD n).toArray.size ≤ 4
  rw [List.size_toArray]
  exact decD_len 3 n (by omega)

set_option maxRecDepth 100000 in
set_option maxHeartbeats 1000000 in
theorem decimalr_any : ∀ (n : Nat), n ≤ 9999 → ∀ w : World, Calls Tryd.prog 52 #[.int .i64 (n : Int)] w fun e w' => e = .returned (.string (decS n)) ∧ ∃ k, w' = w.drewN k := by
  intro n
  induction n using Nat.strongRecOn with
  | _ n ih =>
    intro hn w
    by_cases hlt : n < 10
    · have H := Lib.hid (decS_low hlt)
      unfold tens at H
      go_enter Tryd.func52, Tryd.ntmps52
      go_wp2
      go_ret
      exact ⟨ret_str H.out, 0, rfl⟩
    · obtain ⟨q, hq⟩ : ∃ q, n / 10 = q := ⟨_, rfl⟩
      obtain ⟨r, hr⟩ : ∃ r, n % 10 = r := ⟨_, rfl⟩
      have H := Lib.hid (decS_high hlt hq hr)
      have hz := decS_size (n := q) (by omega)
      have hsz : (decS q).size + (tens.extract r (r + 1)).size ≤ 9223372036854775807 := by rw [tens_at r (by omega)]; show _ + 1 ≤ _; omega
      unfold tens at H hsz
      have e1 : (n : Int) / 10 = (q : Int) := by omega
      have e2 : (n : Int) % 10 = (r : Int) := by omega
      have e3 : (n : Int).tdiv 10 = (q : Int) := by rw [Int.tdiv_eq_ediv_of_nonneg (by omega)]; omega
      have e4 : (n : Int).tmod 10 = (r : Int) := by rw [Int.tmod_eq_emod_of_nonneg (by omega)]; omega
      have e5 : IntKind.i64.wrap (q : Int) = q := IntWalk.i64_in _ (by omega)
      have e6 : IntKind.i64.wrap (r : Int) = r := IntWalk.i64_in _ (by omega)
      have e7 : IntKind.i64.wrap ((r : Int) + 1) = (r : Int) + 1 := IntWalk.i64_in _ (by omega)
      have e8 : (0 : Int) ≤ (r : Int) + 1 := by omega
      have e9 : ((r : Int) + 1).toNat = r + 1 := by omega
      have hr10 : r < 10 := by omega
      have IH := fun w => Lib.hid (ih q (by omega) (by omega) w)
      clear hq hr ih
      go_enter Tryd.func52, Tryd.ntmps52
      go_wp2
      go_quiet ((go_at_call 52; exact Calls.quiet_of (IH _).out))
      go_wp2
      go_ret
      exact ⟨ret_str H.out, _, rfl⟩
/-- digits read -/
def val (l : List UInt8) : Nat := l.foldl (fun a b => 10 * a + (b.toNat - 48)) 0
theorem val_decD : ∀ n : Nat, val (decD n) = n := by
  intro n
  induction n using Nat.strongRecOn with
  | _ n ih =>
    rw [decD]
    split
    · show 10 * 0 + ((UInt8.ofNat (48 + n)).toNat - 48) = n
      rw [UInt8.toNat_ofNat']; omega
    · have h := ih (n / 10) (by omega)
      unfold val at h ⊢
      rw [List.foldl_append, h]
      show 10 * (n / 10) + ((UInt8.ofNat (48 + n % 10)).toNat - 48) = n
      rw [UInt8.toNat_ofNat']; omega
/-- the name with a number -/
def nameR (n : Nat) (cap : Bool) : ByteArray := (if cap then ⟨#[78]⟩ else ⟨#[116]⟩) ++ decS n
theorem nameR_list (n : Nat) (cap : Bool) : (nameR n cap).data.toList = (if cap then 78 else 116) :: decD n := by
  unfold nameR
  rw [ByteArray.data_append, Array.toList_append]
  cases cap <;> rfl
theorem nameR_inj {m n : Nat} {c : Bool} (h : nameR m c = nameR n c) : m = n := by
  have := congrArg (fun s => s.data.toList) h
  simp only [nameR_list] at this
  have := congrArg val (List.cons.inj this).2
  rwa [val_decD, val_decD] at this
/-- what Make answers -/
def makeR (n : Int) (cap : Bool) : ByteArray × Int := if n < 0 ∨ 9999 < n then (⟨#[]⟩, 2) else (nameR n.toNat cap, 0)
set_option maxRecDepth 100000 in
theorem maker_any (n : Int) (cap : Bool) (x : ByteArray) (er : Int) (w : World) (h1 : -9223372036854775808 ≤ n) (h2 : n ≤ 9223372036854775807) (H : Hid (makeR n cap = (x, er))) :
    Calls Tryd.prog 36 #[.int .i64 n, .bool cap] w fun e w' => e = .returned (.tuple #[.string x, .int .i64 er]) ∧ ∃ k, w' = w.drewN k := by
  have h := H.out
  unfold makeR at h
  clear H
  by_cases hf : n < 0 ∨ 9999 < n
  · rw [if_pos hf] at h; cases h
    rcases hf with hf | hf
    all_goals
      go_enter Tryd.func36, Tryd.ntmps36
      go_wp2
      go_ret2
      exact ⟨rfl, 0, rfl⟩
  · rw [if_neg hf] at h; cases h
    obtain ⟨m, rfl⟩ := Int.eq_ofNat_of_zero_le (show 0 ≤ n by omega)
    have hm : m ≤ 9999 := by omega
    have d1 : decide ((m : Int) < 0) = false := decide_eq_false (by omega)
    have hz := decS_size hm
    clear hf h1 h2
    cases cap
    · have H := Lib.hid (show (⟨#[116]⟩ : ByteArray) ++ decS m = nameR m false from rfl)
      have hs : (⟨#[116]⟩ : ByteArray).size + (decS m).size ≤ 9223372036854775807 := by show 1 + _ ≤ _; omega
      go_enter Tryd.func36, Tryd.ntmps36
      go_wp2_with (go_at_call 52; refine (decimalr_any m hm _).mono ?_; rintro e w1 ⟨rfl, n1, rfl⟩)
      go_ret2
      exact ⟨ret_se (by rw [H.out]; simp), _, rfl⟩
    · have H := Lib.hid (show (⟨#[78]⟩ : ByteArray) ++ decS m = nameR m true from rfl)
      have hs : (⟨#[78]⟩ : ByteArray).size + (decS m).size ≤ 9223372036854775807 := by show 1 + _ ≤ _; omega
      go_enter Tryd.func36, Tryd.ntmps36
      go_wp2_with (go_at_call 52; refine (decimalr_any m hm _).mono ?_; rintro e w1 ⟨rfl, n1, rfl⟩)
      go_ret2
      exact ⟨ret_se (by rw [H.out]; simp), _, rfl⟩
theorem length_le_of_mem {α : Type} [DecidableEq α] : ∀ (xs l : List α), xs.Nodup → (∀ x ∈ xs, x ∈ l) → xs.length ≤ l.length := by
  intro xs
  induction xs with
  | nil => intro l _ _; simp
  | cons x xs ih =>
    intro l hn h
    have hx := h x (List.mem_cons_self ..)
    obtain ⟨h1, h2⟩ := List.nodup_cons.1 hn
    have := ih (l.erase x) h2 (fun y hy => (List.mem_erase_of_ne (by rintro rfl; exact h1 hy)).2 (h y (List.mem_cons_of_mem _ hy)))
    rw [List.length_erase_of_mem hx] at this
    have := List.length_pos_of_mem hx
    simp; omega
theorem idx_lt_mem {s : ByteArray} : ∀ {l : List ByteArray}, idx l s < l.length → s ∈ l := by
  intro l
  induction l with
  | nil => intro h; simp [idx] at h
  | cons x l ih =>
    intro h
    unfold idx at h
    by_cases hx : x = s
    · subst hx; exact List.mem_cons_self ..
    · rw [if_neg hx] at h
      exact List.mem_cons_of_mem _ (ih (by simp at h; omega))
theorem mem_idx_lt {s : ByteArray} : ∀ {l : List ByteArray}, s ∈ l → idx l s < l.length := by
  intro l
  induction l with
  | nil => intro h; cases h
  | cons x l ih =>
    intro h
    unfold idx
    by_cases hx : x = s
    · rw [if_pos hx]; simp
    · rw [if_neg hx]
      have := ih ((List.mem_cons.1 h).resolve_left (fun e => hx e.symm))
      simp; omega
/-- the first name that is not in a list -/
theorem fresh_ex (l : List ByteArray) (c : Bool) : ∃ n, n ≤ l.length ∧ nameR n c ∉ l ∧ ∀ j, j < n → nameR j c ∈ l := by
  have hex : ∃ n, n ≤ l.length ∧ nameR n c ∉ l := by
    refine Classical.byContradiction fun hno => ?_
    have hall : ∀ n, n ≤ l.length → nameR n c ∈ l := fun n hn => Classical.byContradiction fun h => hno ⟨n, hn, h⟩
    have := length_le_of_mem ((List.range (l.length + 1)).map (nameR · c)) l
      (List.pairwise_map.2 (List.Pairwise.imp (fun h e => h (nameR_inj e)) List.nodup_range))
      (fun x hx => by obtain ⟨n, hn, rfl⟩ := List.mem_map.1 hx; exact hall n (by have := List.mem_range.1 hn; omega))
    simp at this
    omega
  obtain ⟨n, hn, hnot⟩ := hex
  induction n using Nat.strongRecOn with
  | _ n ih =>
    by_cases hj : ∃ j, j < n ∧ nameR j c ∉ l
    · obtain ⟨j, hj1, hj2⟩ := hj
      exact ih j hj1 (by omega) hj2
    · exact ⟨n, hn, hnot, fun j h => Classical.byContradiction fun h2 => hj ⟨j, h, h2⟩⟩
/-- that is what Fresh answers -/
def FreshR (l : List ByteArray) (c : Bool) (x : ByteArray) (er : Int) : Prop :=
  (100 < l.length ∧ x = ⟨#[]⟩ ∧ er = 6) ∨ (l.length ≤ 100 ∧ er = 0 ∧ ∃ n, n ≤ l.length ∧ x = nameR n c ∧ x ∉ l ∧ ∀ j, j < n → nameR j c ∈ l)
set_option maxRecDepth 100000 in
set_option maxHeartbeats 1000000 in
theorem freshr_any (a : Option Addr) (cap : Nat) (ss : List ByteArray) (c : Bool) (x : ByteArray) (er : Int) (w : World) (hn : ss.length ≤ 9223372036854775807) (hr : ReadsS w a ss) (H : Hid (FreshR ss c x er)) :
    Calls Tryd.prog 35 #[.slice a ss.length cap, .bool c] w fun e w' => e = .returned (.tuple #[.string x, .int .i64 er]) ∧ ∃ k, w' = w.drewN k := by
  rcases H.out with ⟨hb, rfl, rfl⟩ | ⟨hb, rfl, n, hn1, hx, hx2, hx3⟩
  · clear H
    go_enter Tryd.func35, Tryd.ntmps35
    go_wp2
    go_ret2
    exact ⟨rfl, 0, rfl⟩
  · have HR := Lib.hid hr
    have HX := Lib.hid hx
    have HX2 := Lib.hid hx2
    have HX3 := Lib.hid hx3
    clear H hr hx hx2 hx3
    go_enter Tryd.func35, Tryd.ntmps35
    go_wp2
    go_loopw [6] (fun v wr => ∃ k m : Nat, k ≤ n ∧ v = .int .i64 k ∧ wr = w.drewN m) (fun v _ => n - (intOf v).toNat)
    case atStart => exact ⟨0, 0, by omega, rfl, rfl⟩
    case round =>
      obtain ⟨k, m, hk, rfl, rfl⟩ := hrel
      have hM : Hid (makeR (k : Int) c = (nameR k c, 0)) := Lib.hid (by unfold makeR; rw [if_neg (by omega), Int.toNat_natCast])
      by_cases hlt : k < n
      · have hF : Hid (findR ss (nameR k c) = ((idx ss (nameR k c) : Int), 0)) := Lib.hid (by unfold findR; rw [if_neg (by omega), if_pos (mem_idx_lt (HX3.out k hlt))])
        go_wp2_with (first
          | (go_at_call 36; refine (maker_any k c _ 0 _ (by omega) (by omega) hM).mono ?_; rintro e w1 ⟨rfl, n1, rfl⟩)
          | (go_at_call 33; refine (findr_any a cap ss _ _ 0 _ (by omega) (HR.out.drewN _) hF).mono ?_; rintro e w1 ⟨rfl, rfl⟩))
        go_roundw
        case rel => exact ⟨k + 1, _, by omega, by go_num, by first | rfl | (simp only [World.drewN_drewN]; rfl)⟩
        case measure => simp [intOf]; omega
      · obtain rfl : k = n := by omega
        have hF : Hid (findR ss (nameR k c) = (0, 7)) := Lib.hid (by
          unfold findR
          rw [if_neg (by omega), if_neg (fun h => HX2.out (by rw [HX.out]; exact idx_lt_mem h))])
        go_wp2_with (first
          | (go_at_call 36; refine (maker_any k c _ 0 _ (by omega) (by omega) hM).mono ?_; rintro e w1 ⟨rfl, n1, rfl⟩)
          | (go_at_call 33; refine (findr_any a cap ss _ _ 7 _ (by omega) (HR.out.drewN _) hF).mono ?_; rintro e w1 ⟨rfl, rfl⟩))
        go_ret2
        exact ⟨ret_se (by rw [HX.out]), _, by first | rfl | (simp only [World.drewN_drewN]; rfl)⟩
end Go.Proofs.YtabcggmmdjeobaaDoor.s03
