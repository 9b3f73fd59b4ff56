/-
  Layer 5: CodecWrites.
-/
import Derived.Test.YtkepnjnindolbaaS05ZD
namespace Go.Proofs.Ytkepnjnindolbaa.s05
set_option linter.unusedVariables false
set_option linter.unusedSimpArgs false
open Go.RowKit
open kit

theorem encS_len (m : Nat) : ∀ (ts : List ByteArray), (∀ t ∈ ts, t.size ≤ m) → m ≤ 9223372036854775807 → (encS ts).length ≤ ts.length * (m + 10) := by
  intro ts
  induction ts with
  | nil => intro _ _; simp [encS_nil]
  | cons t ts ih =>
    intro h hm
    have h1 := h t (List.mem_cons_self ..)
    have h2 := ih (fun x hx => h x (List.mem_cons_of_mem _ hx)) hm
    have h3 : encS (t :: ts) = bys (digs t.size) ++ (t.data.toList ++ encS ts) := by
      simp [encS, cat, partsOf, str_list]
    have h4 : (digs t.size).length ≤ 10 := digs_len10 (by omega)
    have h5 : t.data.toList.length = t.size := by rw [Array.length_toList]; rfl
    rw [h3, List.length_append, List.length_append, bys_len, h5, List.length_cons, Nat.succ_mul]
    omega
set_option maxRecDepth 100000 in
set_option maxHeartbeats 2000000 in
theorem writes_any (s : ByteArray) (m e n mm : Int) (a2 a3 : Option Addr) (cap2 cap3 : Nat) (ts : List ByteArray) (ns : List Int) (w : World) (hs : s.size ≤ 9223372036854775807) (i1 : 0 ≤ n) (i2 : n ≤ 18446744073709551615) (hl2 : ts.length ≤ 9223372036854775807) (hl3 : ns.length ≤ 9223372036854775807)
    (HZ : Hid (∀ x ∈ ts, x.size ≤ 9223372036854775807)) (HN : Hid (∀ z ∈ ns, -9223372036854775808 ≤ z ∧ z ≤ 9223372036854775807)) (RT : Hid (ReadsS w a2 ts)) (ST : Hid (Src w a2 cap2 (ts.map Value.string))) (RI : Hid (ReadsI w a3 ns)) (SI : Hid (Src w a3 cap3 (ns.map (Value.int .i64)))) :
    Calls Try.prog 5 #[.agg #[.string s, .int .i64 m, .int .i64 e], .int .u64 n, .slice a2 ts.length cap2, .slice a3 ns.length cap3, .int .i64 mm] w fun en w' => en = .returned (.bool true) ∧ Below w.heap.size w w' := by
  have P1 := Lib.hid (Box.new w 45 #[.string s, .int .i64 m, .int .i64 e])
  have hB1 := (Below.refl w.heap.size w).alloc (Nat.le_refl _) (.cells #[.string s, .int .i64 m, .int .i64 e] 45)
  have RT1 := Lib.hid (RT.out.below hB1)
  have ST1 := Lib.hid (ST.out.below hB1)
  have RI1 := Lib.hid (RI.out.below hB1)
  have SI1 := Lib.hid (SI.out.below hB1)
  have B1 := Lib.hid hB1
  clear RT ST RI SI hB1
  by_cases hbig : 100 < s.size ∨ 10 < ts.length ∨ 30 < ns.length
  · have hc : 100 < s.size ∨ (¬ 100 < s.size ∧ 10 < ts.length) ∨ (¬ 100 < s.size ∧ ¬ 10 < ts.length ∧ 30 < ns.length) := by omega
    clear hbig
    rcases hc with h1 | ⟨h1, h2⟩ | ⟨h1, h2, h3⟩
    all_goals
      go_enter Try.func5, Try.ntmps5
      go_wp2_with (go_at_call 9; refine (awake_any _).mono ?_; rintro e w9 ⟨rfl, hB9⟩; have B9 := Lib.hid (below_then B1.out hB9); clear hB9)
      go_ret
      exact ⟨rfl, B9.out⟩
  · have h1 : ¬ 100 < s.size := by omega
    have h2 : ¬ 10 < ts.length := by omega
    have h3 : ¬ 30 < ns.length := by omega
    have h2' : ts.length ≤ 10 := by omega
    have h3' : ns.length ≤ 30 := by omega
    clear hbig
    cases hb : shortB ts 60
    · have HB := Lib.hid hb
      clear hb
      go_enter Try.func5, Try.ntmps5
      go_wp2_with (first
        | (go_at_call 27; refine (short_any a2 cap2 60 ts _ hl2 (by omega) HZ.out RT1.out).mono ?_; rintro e w9 ⟨rfl, rfl⟩; rw [HB.out])
        | (go_at_call 9; refine (awake_any _).mono ?_; rintro e w9 ⟨rfl, hB9⟩; have B9 := Lib.hid (below_then B1.out hB9); clear hB9))
      go_ret
      exact ⟨rfl, B9.out⟩
    · have hsm := short_mem hb
      have hel := encS_len 60 ts hsm (by omega)
      have htot : (encS ts).length ≤ 20000 := by have : ts.length * (60 + 10) ≤ 10 * (60 + 10) := Nat.mul_le_mul_right _ h2'; omega
      have HZ2 : Hid (∀ x ∈ ts, x.size ≤ 20000) := Lib.hid (fun x hx => by have := hsm x hx; omega)
      have HB := Lib.hid hb
      clear hb hsm hel
      obtain ⟨⟨t1, er1⟩, HD⟩ : ∃ r, Hid (doneW s m e = r) := ⟨_, Lib.hid rfl⟩
      obtain ⟨⟨s2, m2, e2⟩, HM⟩ : ∃ r, Hid (cntw ⟨#[]⟩ mm 0 = r) := ⟨_, Lib.hid rfl⟩
      obtain ⟨⟨s3, m3, e3⟩, HP⟩ : ∃ r, Hid (addR s m e (bys (digs n)) = r) := ⟨_, Lib.hid rfl⟩
      obtain ⟨⟨s4, m4, e4⟩, HS⟩ : ∃ r, Hid (addR s m e (encS ts) = r) := ⟨_, Lib.hid rfl⟩
      obtain ⟨⟨s5, m5, e5⟩, HI⟩ : ∃ r, Hid (addR s m e (encI ns) = r) := ⟨_, Lib.hid rfl⟩
      go_enter Try.func5, Try.ntmps5
      go_wp2_with (first
        | (go_at_call 27; refine (short_any a2 cap2 60 ts _ hl2 (by omega) HZ.out RT1.out).mono ?_; rintro en w9 ⟨rfl, rfl⟩; rw [HB.out])
        | (go_at_call 28; refine (own_texts a2 cap2 ts _ (by omega) ST1.out).mono ?_; rintro en w2 ⟨ax, cx, rfl, hx, hB⟩; have RX2 := Lib.hid hx; have P2 := Lib.hid (P1.out.below hB); have RT2 := Lib.hid (RT1.out.below hB); have RI2 := Lib.hid (RI1.out.below hB); have SI2 := Lib.hid (SI1.out.below hB); have B2 := Lib.hid (below_then B1.out hB); clear hx hB)
        | (go_at_call 29; refine (own_ints a3 cap3 ns _ (by omega) SI2.out).mono ?_; rintro en w3 ⟨ay, cy, rfl, hx, hB⟩; have RY3 := Lib.hid hx; have RX3 := Lib.hid (RX2.out.below hB); have P3 := Lib.hid (P2.out.below hB); have RT3 := Lib.hid (RT2.out.below hB); have RI3 := Lib.hid (RI2.out.below hB); have B3 := Lib.hid (below_then B2.out hB); clear hx hB; obtain ⟨c0, c1, c2⟩ := P3.out.c3)
        | (go_at_call 30; refine (pdone_any s m e hs t1 er1 HD _).mono ?_; rintro en w4 ⟨rfl, hB⟩; have RY4 := Lib.hid (RY3.out.below hB); have RX4 := Lib.hid (RX3.out.below hB); have P4 := Lib.hid (P3.out.below hB); have RT4 := Lib.hid (RT3.out.below hB); have RI4 := Lib.hid (RI3.out.below hB); have B4 := Lib.hid (below_then B3.out hB); clear hB c0 c1 c2; obtain ⟨c0, c1, c2⟩ := P4.out.c3)
        | (go_at_call 31; refine (rdone_any s m e hs t1 er1 HD _).mono ?_; rintro en w5 ⟨rfl, hB⟩; have RY5 := Lib.hid (RY4.out.below hB); have RX5 := Lib.hid (RX4.out.below hB); have P5 := Lib.hid (P4.out.below hB); have RT5 := Lib.hid (RT4.out.below hB); have RI5 := Lib.hid (RI4.out.below hB); have B5 := Lib.hid (below_then B4.out hB); clear hB c0 c1 c2))
      have z0 : ∀ p : Later w5, p.W.cell? ⟨w.heap.size, 0, none⟩ = some (.string s) := fun p => p.cell P5.out.c3.1 P5.out.lt
      have z1 : ∀ p : Later w5, p.W.cell? ⟨w.heap.size, 1, none⟩ = some (.int .i64 m) := fun p => p.cell P5.out.c3.2.1 P5.out.lt
      have z2 : ∀ p : Later w5, p.W.cell? ⟨w.heap.size, 2, none⟩ = some (.int .i64 e) := fun p => p.cell P5.out.c3.2.2 P5.out.lt
      refine wp_region_later (by kernel_rfl) (by kernel_rfl) ?_
      repeat (go_big_quiet_step ((first
        | (go_at_call 32; exact calls_later (pmake_any mm s2 m2 e2 HM _))
        | (go_at_call 33; exact calls_later (rmake_any mm s2 m2 e2 HM _))
        | (go_at_call 34; exact calls_later (pput_any s m e n hs i1 i2 s3 m3 e3 HP _))
        | (go_at_call 35; exact calls_later (rput_any s m e n hs i1 i2 s3 m3 e3 HP _))
        | (go_at_call 36; exact calls_later (pputs_any s m e ax cx ts hs (by omega) HZ s4 m4 e4 HS _ (Lib.hid (RX5.out.below (Later.h _)))))
        | (go_at_call 37; exact calls_later (rputs_any s m e a2 cap2 ts hs (by omega) HZ2 htot s4 m4 e4 HS _ (Lib.hid (RT5.out.below (Later.h _)))))
        | (go_at_call 38; exact calls_later (pputi_any s m e ay cy ns hs (by omega) HN s5 m5 e5 HI _ (Lib.hid (RY5.out.below (Later.h _)))))
        | (go_at_call 39; exact calls_later (rputi_any s m e a3 cap3 ns hs (by omega) HN s5 m5 e5 HI _ (Lib.hid (RI5.out.below (Later.h _))))))))
      refine wpQuiet_nil ?_
      intro _ hw'
      obtain ⟨p6, hw''⟩ := hw'
      subst hw''
      have RY6 := Lib.hid (RY5.out.below p6.h)
      have RX6 := Lib.hid (RX5.out.below p6.h)
      have P6 := Lib.hid (P5.out.below p6.h)
      have RT6 := Lib.hid (RT5.out.below p6.h)
      have RI6 := Lib.hid (RI5.out.below p6.h)
      have B6 := Lib.hid (below_then B5.out p6.h)
      generalize p6.W = w6 at RY6 RX6 P6 RT6 RI6 B6 ⊢
      clear z0 z1 z2
      go_wp2
      have z0 : ∀ p : Later w6, p.W.cell? ⟨w.heap.size, 0, none⟩ = some (.string s) := fun p => p.cell P6.out.c3.1 P6.out.lt
      have z1 : ∀ p : Later w6, p.W.cell? ⟨w.heap.size, 1, none⟩ = some (.int .i64 m) := fun p => p.cell P6.out.c3.2.1 P6.out.lt
      have z2 : ∀ p : Later w6, p.W.cell? ⟨w.heap.size, 2, none⟩ = some (.int .i64 e) := fun p => p.cell P6.out.c3.2.2 P6.out.lt
      cases ts with
      | nil =>
        refine wp_region_later (by kernel_rfl) (by kernel_rfl) ?_
        repeat (go_big_quiet_step (fail))
        refine wpQuiet_nil ?_
        intro _ hw'
        obtain ⟨p7, hw''⟩ := hw'
        subst hw''
        have RY7 := Lib.hid (RY6.out.below p7.h)
        have RX7 := Lib.hid (RX6.out.below p7.h)
        have RT7 := Lib.hid (RT6.out.below p7.h)
        have RI7 := Lib.hid (RI6.out.below p7.h)
        have B7 := Lib.hid (below_then B6.out p7.h)
        generalize p7.W = w7 at RY7 RX7 RT7 RI7 B7 ⊢
        clear z0 z1 z2
        go_wp2_with (first
          | (go_at_call 42; refine (same_texts ax a2 cx cap2 [] _ (by simp) RX7.out RT7.out).mono ?_; rintro en w8 ⟨rfl, n8, rfl⟩; have RY8 := Lib.hid (RY7.out.below (below_drewN (Below.refl w7.heap.size w7) n8)); have RI8 := Lib.hid (RI7.out.below (below_drewN (Below.refl w7.heap.size w7) n8)); have B8 := Lib.hid (below_drewN B7.out n8))
          | (go_at_call 20; refine (same_ints ay a3 cy cap3 ns _ hl3 RY8.out RI8.out).mono ?_; rintro en w9 ⟨rfl, n9, rfl⟩; have B9 := Lib.hid (below_drewN B7.out (n8 + n9)))
          | (go_at_call 9; refine (awake_any _).mono ?_; rintro e w10 ⟨rfl, hB⟩; have B10 := Lib.hid (below_then B9.out hB); clear hB))
        go_ret
        exact ⟨rfl, B10.out⟩
      | cons t r =>
        have g0 : 0 < (t :: r).length := by simp
        obtain ⟨⟨s6, m6, e6⟩, HA⟩ : ∃ r, Hid (addR s m e t.data.toList = r) := ⟨_, Lib.hid rfl⟩
        have ht : t.size ≤ 9223372036854775807 := HZ.out t (List.mem_cons_self ..)
        obtain ⟨bx, ox, rfl, hbx, hcx⟩ := RX6.out 0 g0
        obtain ⟨bt, ot, rfl, hbt, hct⟩ := RT6.out 0 g0
        have q0 : ∀ p : Later w6, p.W.cell? ⟨bx, ox, none⟩ = some (.string t) := fun p => p.cell hcx hbx
        have q1 : ∀ p : Later w6, p.W.cell? ⟨bt, ot, none⟩ = some (.string t) := fun p => p.cell hct hbt
        refine wp_region_later (by kernel_rfl) (by kernel_rfl) ?_
        repeat (go_big_quiet_step ((first
          | (go_at_call 40; exact calls_later (padd_any s m e t hs ht s6 m6 e6 HA _))
          | (go_at_call 41; exact calls_later (radd_any s m e t hs ht s6 m6 e6 HA _)))))
        refine wpQuiet_nil ?_
        intro _ hw'
        obtain ⟨p7, hw''⟩ := hw'
        subst hw''
        have RY7 := Lib.hid (RY6.out.below p7.h)
        have RX7 := Lib.hid (RX6.out.below p7.h)
        have RT7 := Lib.hid (RT6.out.below p7.h)
        have RI7 := Lib.hid (RI6.out.below p7.h)
        have B7 := Lib.hid (below_then B6.out p7.h)
        generalize p7.W = w7 at RY7 RX7 RT7 RI7 B7 ⊢
        clear z0 z1 z2 q0 q1 hcx hct hbx hbt
        go_wp2_with (first
          | (go_at_call 42; refine (same_texts _ _ cx cap2 (t :: r) _ hl2 RX7.out RT7.out).mono ?_; rintro en w8 ⟨rfl, n8, rfl⟩; have RY8 := Lib.hid (RY7.out.below (below_drewN (Below.refl w7.heap.size w7) n8)); have RI8 := Lib.hid (RI7.out.below (below_drewN (Below.refl w7.heap.size w7) n8)); have B8 := Lib.hid (below_drewN B7.out n8))
          | (go_at_call 20; refine (same_ints ay a3 cy cap3 ns _ hl3 RY8.out RI8.out).mono ?_; rintro en w9 ⟨rfl, n9, rfl⟩; have B9 := Lib.hid (below_drewN B7.out (n8 + n9)))
          | (go_at_call 9; refine (awake_any _).mono ?_; rintro e w10 ⟨rfl, hB⟩; have B10 := Lib.hid (below_then B9.out hB); clear hB))
        go_ret
        exact ⟨rfl, B10.out⟩
end Go.Proofs.Ytkepnjnindolbaa.s05
