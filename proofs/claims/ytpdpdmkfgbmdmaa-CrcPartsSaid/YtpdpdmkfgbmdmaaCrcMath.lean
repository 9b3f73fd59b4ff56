/-
  Plain facts on CRC-32, free of the program: the step is linear and one to one; bits one by one, bytes, words; bursts.
-/
import Derived.Laws.BytesArg
namespace Go.Proofs.Ytpdpdmkfgbmdmaa.crcs
set_option linter.unusedVariables false
set_option linter.unusedSimpArgs false

abbrev W := BitVec 32
def poly : W := 0xEDB88320#32
def bit (b : Bool) : W := if b then 1#32 else 0#32
/-- one step -/
def st (c : W) : W := if c.getLsbD 0 then (c >>> 1) ^^^ poly else c >>> 1
def iter : Nat → W → W
  | 0, c => c
  | k + 1, c => iter k (st c)

theorem shr_xor (a b : W) (k : Nat) : (a ^^^ b) >>> k = (a >>> k) ^^^ (b >>> k) := by
  apply BitVec.eq_of_getLsbD_eq
  intro i hi
  simp [BitVec.getLsbD_ushiftRight]
theorem st_xor (a b : W) : st (a ^^^ b) = st a ^^^ st b := by
  unfold st
  rw [shr_xor, BitVec.getLsbD_xor]
  cases ha : a.getLsbD 0 <;> cases hb : b.getLsbD 0 <;> simp
  · rw [BitVec.xor_assoc]
  · rw [BitVec.xor_assoc, BitVec.xor_comm (b >>> 1) poly, BitVec.xor_assoc]
  · rw [BitVec.xor_assoc (a >>> 1) poly, ← BitVec.xor_assoc poly (b >>> 1) poly, BitVec.xor_comm poly (b >>> 1), BitVec.xor_assoc (b >>> 1), BitVec.xor_self, BitVec.xor_zero]
theorem st_zero : st 0#32 = 0#32 := by decide
theorem st_ne {x : W} (h : st x = 0#32) : x = 0#32 := by
  unfold st at h
  cases hx : x.getLsbD 0
  · rw [hx] at h
    simp only [Bool.false_eq_true, if_false] at h
    apply BitVec.eq_of_getLsbD_eq
    intro i hi
    cases i with
    | zero => rw [hx]; rfl
    | succ i =>
      have := congrArg (fun y => y.getLsbD i) h
      simp only [BitVec.getLsbD_ushiftRight] at this
      rw [Nat.add_comm] at this
      simpa using this
  · rw [hx] at h
    simp only [if_true] at h
    have := congrArg (fun y => y.getLsbD 31) h
    simp only [BitVec.getLsbD_xor, BitVec.getLsbD_ushiftRight] at this
    have e : poly.getLsbD 31 = true := by decide
    rw [e, BitVec.getLsbD_of_ge x (1 + 31) (by omega)] at this
    simp at this
theorem xor_eq_zero {a b : W} (h : a ^^^ b = 0#32) : a = b := by
  have := congrArg (fun y => y ^^^ b) h
  simpa [BitVec.xor_assoc] using this
theorem st_inj {a b : W} (h : st a = st b) : a = b := by
  apply xor_eq_zero
  apply st_ne
  rw [st_xor, h, BitVec.xor_self]
theorem iter_xor (k : Nat) : ∀ a b : W, iter k (a ^^^ b) = iter k a ^^^ iter k b := by
  induction k with
  | zero => intro a b; rfl
  | succ k ih => intro a b; show iter k (st (a ^^^ b)) = _; rw [st_xor, ih]; rfl
theorem iter_inj (k : Nat) : ∀ {a b : W}, iter k a = iter k b → a = b := by
  induction k with
  | zero => intro a b h; exact h
  | succ k ih => intro a b h; exact st_inj (ih h)
theorem iter_zero (k : Nat) : iter k 0#32 = 0#32 := by
  induction k with
  | zero => rfl
  | succ k ih => show iter k (st 0#32) = _; rw [st_zero, ih]

/-- bits one by one, the lowest one first -/
def run (c : W) (l : List Bool) : W := l.foldl (fun c b => st (c ^^^ bit b)) c
theorem run_nil (c : W) : run c [] = c := rfl
theorem run_cons (c : W) (b : Bool) (l : List Bool) : run c (b :: l) = run (st (c ^^^ bit b)) l := rfl
theorem run_app (c : W) (x y : List Bool) : run c (x ++ y) = run (run c x) y := by simp [run, List.foldl_append]
theorem bit_xor (a b : Bool) : bit (a ^^ b) = bit a ^^^ bit b := by cases a <;> cases b <;> decide
theorem run_xor : ∀ (x y : List Bool) (c d : W), x.length = y.length → run (c ^^^ d) (x.zipWith Bool.xor y) = run c x ^^^ run d y := by
  intro x
  induction x with
  | nil => intro y c d h; cases y with
    | nil => rfl
    | cons b y => simp at h
  | cons a x ih => intro y c d h; cases y with
    | nil => simp at h
    | cons b y =>
      rw [List.zipWith_cons_cons, run_cons, run_cons, run_cons, ← ih y _ _ (by simpa using h), ← st_xor, bit_xor]
      congr 1
      congr 1
      rw [BitVec.xor_assoc, BitVec.xor_assoc, ← BitVec.xor_assoc d, ← BitVec.xor_assoc (bit a), BitVec.xor_comm d (bit a)]
theorem run_inj : ∀ (x : List Bool) {c d : W}, run c x = run d x → c = d := by
  intro x
  induction x with
  | nil => intro c d h; exact h
  | cons a x ih =>
    intro c d h
    have := st_inj (ih h)
    have h2 := congrArg (fun y => y ^^^ bit a) this
    simpa [BitVec.xor_assoc] using h2
theorem run_zeros (k : Nat) : run 0#32 (List.replicate k false) = 0#32 := by
  induction k with
  | zero => rfl
  | succ k ih =>
    rw [List.replicate_succ, run_cons]
    have : st (0#32 ^^^ bit false) = 0#32 := by decide
    rw [this, ih]

/-- the k lowest bits of a word -/
def lows : Nat → W → List Bool
  | 0, _ => []
  | k + 1, y => y.getLsbD 0 :: lows k (y >>> 1)
theorem st_split (c y : W) : st (c ^^^ y) = st (c ^^^ bit (y.getLsbD 0)) ^^^ (y >>> 1) := by
  rw [st_xor, st_xor, BitVec.xor_assoc]
  congr 1
  cases h : y.getLsbD 0
  · have e : st (bit false) = 0#32 := by decide
    rw [e]
    unfold st
    rw [h]
    simp
  · have e : st (bit true) = poly := by decide
    rw [e]
    unfold st
    rw [h]
    simp [BitVec.xor_comm]
/-- k steps on a word joined with y: the k lowest bits one by one, and what is left of y -/
theorem iter_run (k : Nat) : ∀ c y : W, iter k (c ^^^ y) = run c (lows k y) ^^^ (y >>> k) := by
  induction k with
  | zero => intro c y; simp [iter, lows, run]
  | succ k ih =>
    intro c y
    show iter k (st (c ^^^ y)) = run c (y.getLsbD 0 :: lows k (y >>> 1)) ^^^ _
    rw [st_split, ih, run_cons]
    congr 1
    rw [← BitVec.shiftRight_add, Nat.add_comm]

/-- a byte turns the state -/
def upd (c : W) (b : W) : W := (c >>> 8) ^^^ iter 8 ((c ^^^ b) &&& 255#32)
theorem lows_mask (x : W) : ∀ (k j : Nat), k + j ≤ 8 → lows k ((x &&& 255#32) >>> j) = lows k (x >>> j) := by
  intro k
  induction k with
  | zero => intro j _; rfl
  | succ k ih =>
    intro j h
    show _ :: _ = _ :: _
    rw [← BitVec.shiftRight_add, ← BitVec.shiftRight_add, ih (j + 1) (by omega)]
    congr 1
    simp only [BitVec.getLsbD_ushiftRight, BitVec.getLsbD_and]
    have : (255#32 : W).getLsbD (j + 0) = true := by
      have hj : j = 0 ∨ j = 1 ∨ j = 2 ∨ j = 3 ∨ j = 4 ∨ j = 5 ∨ j = 6 ∨ j = 7 := by omega
      rcases hj with rfl | rfl | rfl | rfl | rfl | rfl | rfl | rfl <;> decide
    rw [this, Bool.and_true]
theorem mask_shr (x : W) : (x &&& 255#32) >>> 8 = 0#32 := by
  apply BitVec.eq_of_getLsbD_eq
  intro i hi
  simp only [BitVec.getLsbD_ushiftRight, BitVec.getLsbD_and, BitVec.getLsbD_zero]
  have : (255#32 : W).getLsbD (8 + i) = false := by
    rw [BitVec.getLsbD_ofNat, Nat.testBit_lt_two_pow (Nat.lt_of_lt_of_le (show 255 < 2 ^ 8 by decide) (Nat.pow_le_pow_right (by decide) (by omega)))]
    simp
  rw [this, Bool.and_false]
theorem upd_iter (c b : W) (hb : b >>> 8 = 0#32) : upd c b = iter 8 (c ^^^ b) := by
  have h1 : (c ^^^ b) >>> 8 = c >>> 8 := by rw [shr_xor, hb, BitVec.xor_zero]
  have h2 := iter_run 8 0#32 (c ^^^ b)
  have h3 := iter_run 8 0#32 ((c ^^^ b) &&& 255#32)
  have h4 := lows_mask (c ^^^ b) 8 0 (by omega)
  simp only [BitVec.ushiftRight_zero] at h4
  rw [BitVec.zero_xor] at h2 h3
  rw [mask_shr, h4, BitVec.xor_zero] at h3
  unfold upd
  rw [h3, h2, h1, BitVec.xor_comm]
theorem upd_run (c b : W) (hb : b >>> 8 = 0#32) : upd c b = run c (lows 8 b) := by
  rw [upd_iter c b hb, iter_run, hb, BitVec.xor_zero]

/-- a byte as a word -/
def w8 (b : UInt8) : W := BitVec.ofNat 32 b.toNat
theorem w8_shr (b : UInt8) : w8 b >>> 8 = 0#32 := by
  apply BitVec.eq_of_toNat_eq
  have := b.toNat_lt
  rw [BitVec.toNat_ushiftRight, w8, BitVec.toNat_ofNat, Nat.mod_eq_of_lt (by omega), Nat.shiftRight_eq_div_pow]
  show b.toNat / 256 = 0
  omega
/-- a byte's bits, the lowest one first -/
def bits8 (b : UInt8) : List Bool := lows 8 (w8 b)
theorem lows_len (k : Nat) : ∀ y : W, (lows k y).length = k := by
  induction k with
  | zero => intro y; rfl
  | succ k ih => intro y; show (lows k (y >>> 1)).length + 1 = _; rw [ih]
theorem lows_get (k : Nat) : ∀ (y : W) (i : Nat), i < k → (lows k y)[i]? = some (y.getLsbD i) := by
  induction k with
  | zero => intro y i h; omega
  | succ k ih =>
    intro y i h
    cases i with
    | zero => rfl
    | succ i =>
      show (lows k (y >>> 1))[i]? = _
      rw [ih (y >>> 1) i (by omega), BitVec.getLsbD_ushiftRight, Nat.add_comm]
/-- the state behind bytes -/
def adds (c : W) (l : List UInt8) : W := l.foldl (fun c b => upd c (w8 b)) c
theorem adds_app (c : W) (x y : List UInt8) : adds c (x ++ y) = adds (adds c x) y := by simp [adds, List.foldl_append]
theorem adds_run : ∀ (l : List UInt8) (c : W), adds c l = run c (l.flatMap bits8) := by
  intro l
  induction l with
  | nil => intro c; rfl
  | cons b l ih =>
    intro c
    rw [List.flatMap_cons, run_app, ← ih]
    show adds (upd c (w8 b)) l = _
    rw [upd_run c (w8 b) (w8_shr b)]
    rfl
theorem flat_len8 (l : List UInt8) : (l.flatMap bits8).length = 8 * l.length := by
  induction l with
  | nil => rfl
  | cons b l ih => rw [List.flatMap_cons, List.length_append, ih, bits8, lows_len, List.length_cons]; omega

/-- a word of at most 32 bits -/
def word (l : List Bool) : W := (BitVec.ofBoolListLE l).setWidth 32
theorem word_get (l : List Bool) (i : Nat) (h : i < 32) : (word l).getLsbD i = l[i]?.getD false := by
  unfold word
  rw [BitVec.getLsbD_setWidth, BitVec.getLsbD_ofBoolListLE]
  simp [h]
theorem lows_word (l : List Bool) (h : l.length ≤ 32) : lows l.length (word l) = l := by
  apply List.ext_getElem?
  intro i
  by_cases hi : i < l.length
  · rw [lows_get _ _ _ hi, word_get _ _ (by omega), List.getElem?_eq_getElem hi]
    rfl
  · rw [List.getElem?_eq_none (by rw [lows_len]; omega), List.getElem?_eq_none (by omega)]
theorem word_shr (l : List Bool) : word l >>> l.length = 0#32 := by
  apply BitVec.eq_of_getLsbD_eq
  intro i hi
  rw [BitVec.getLsbD_ushiftRight, BitVec.getLsbD_zero]
  by_cases h : l.length + i < 32
  · rw [word_get _ _ h, List.getElem?_eq_none (by omega)]; rfl
  · exact BitVec.getLsbD_of_ge _ _ (by omega)
/-- so many bits behind a state: the state joined with their word -/
theorem run_word (c : W) (l : List Bool) (h : l.length ≤ 32) : run c l = iter l.length (c ^^^ word l) := by
  have := iter_run l.length c (word l)
  rw [lows_word l h, word_shr, BitVec.xor_zero] at this
  exact this.symm
theorem word_inj {x y : List Bool} (hl : x.length = y.length) (h : x.length ≤ 32) (e : word x = word y) : x = y := by
  rw [← lows_word x h, ← lows_word y (by omega), e, hl]

/-- A BURST: bits turned within 32 of each other change the state -/
theorem burst {a r : Nat} {p : List Bool} (hp : p.length ≤ 31) : run 0#32 (List.replicate a false ++ ((true :: p) ++ List.replicate r false)) ≠ 0#32 := by
  intro h
  rw [run_app, run_zeros, run_app] at h
  have h1 : run 0#32 (true :: p) = 0#32 := run_inj (List.replicate r false) (h.trans (run_zeros r).symm)
  rw [run_word _ _ (by simp; omega), BitVec.zero_xor] at h1
  have h2 : word (true :: p) = 0#32 := iter_inj _ (h1.trans (iter_zero _).symm)
  have h3 := congrArg (fun y => y.getLsbD 0) h2
  simp only [word_get _ 0 (by omega)] at h3
  simp at h3

/-! ### seals -/
def ones : W := 0xFFFFFFFF#32
theorem not_ones (c : W) : ~~~c = c ^^^ ones := by
  have : ones = BitVec.allOnes 32 := by decide
  rw [this, BitVec.xor_allOnes]
/-- a number as four bytes, the lowest one first -/
def four (n : W) : List UInt8 := [UInt8.ofNat n.toNat, UInt8.ofNat (n >>> 8).toNat, UInt8.ofNat (n >>> 16).toNat, UInt8.ofNat (n >>> 24).toNat]
theorem w8_low (n : W) (k i : Nat) (h : i < 8) : (w8 (UInt8.ofNat (n >>> k).toNat)).getLsbD i = n.getLsbD (k + i) := by
  unfold w8
  rw [BitVec.getLsbD_ofNat, UInt8.toNat_ofNat']
  have : (decide (i < 32)) = true := by simp; omega
  rw [this, Bool.true_and, show (2 : Nat) ^ 8 = 2 ^ 8 from rfl, Nat.testBit_mod_two_pow]
  have h2 : (decide (i < 8)) = true := by simpa using h
  rw [h2, Bool.true_and]
  show (n >>> k).getLsbD i = _
  rw [BitVec.getLsbD_ushiftRight]
theorem bits8_low (n : W) (k : Nat) : bits8 (UInt8.ofNat (n >>> k).toNat) = lows 8 (n >>> k) := by
  apply List.ext_getElem?
  intro i
  by_cases hi : i < 8
  · rw [bits8, lows_get _ _ _ hi, lows_get _ _ _ hi, w8_low n k i hi, BitVec.getLsbD_ushiftRight]
  · rw [List.getElem?_eq_none (by rw [bits8, lows_len]; omega), List.getElem?_eq_none (by rw [lows_len]; omega)]
theorem lows_app (j : Nat) : ∀ (k : Nat) (y : W), lows (k + j) y = lows k y ++ lows j (y >>> k) := by
  intro k
  induction k with
  | zero => intro y; simp [lows]
  | succ k ih =>
    intro y
    rw [show k + 1 + j = (k + j) + 1 by omega]
    show y.getLsbD 0 :: lows (k + j) (y >>> 1) = _
    rw [ih, ← BitVec.shiftRight_add, Nat.add_comm 1 k]
    rfl
theorem four_bits (n : W) : (four n).flatMap bits8 = lows 32 n := by
  have h0 := bits8_low n 0
  rw [BitVec.ushiftRight_zero] at h0
  unfold four
  rw [List.flatMap_cons, List.flatMap_cons, List.flatMap_cons, List.flatMap_cons, List.flatMap_nil, h0, bits8_low n 8, bits8_low n 16, bits8_low n 24, List.append_nil]
  rw [show lows 32 n = lows (8 + 24) n from rfl, lows_app, show lows 24 (n >>> 8) = lows (8 + 16) (n >>> 8) from rfl, lows_app, show lows 16 (n >>> 8 >>> 8) = lows (8 + 8) (n >>> 8 >>> 8) from rfl, lows_app]
  rw [← BitVec.shiftRight_add, ← BitVec.shiftRight_add]
theorem shr32 (n : W) : n >>> 32 = 0#32 := by
  apply BitVec.eq_of_getLsbD_eq
  intro i hi
  rw [BitVec.getLsbD_ushiftRight, BitVec.getLsbD_zero]
  exact BitVec.getLsbD_of_ge _ _ (by omega)
/-- the state behind a string and four bytes -/
theorem adds_four (c n : W) : adds c (four n) = iter 32 (c ^^^ n) := by
  rw [adds_run, four_bits, iter_run, shr32, BitVec.xor_zero]
/-- four bytes are a seal just where the state behind them is this one -/
theorem seal_iff (c n : W) : adds c (four n) = iter 32 ones ↔ n = ~~~c := by
  rw [adds_four, not_ones]
  constructor
  · intro h
    have := iter_inj 32 h
    have h2 := congrArg (fun y => c ^^^ y) this
    simpa [← BitVec.xor_assoc] using h2
  · rintro rfl
    rw [← BitVec.xor_assoc, BitVec.xor_self, BitVec.zero_xor]
theorem w8_ge (b : UInt8) (i : Nat) (h : 8 ≤ i) : (w8 b).getLsbD i = false := by
  have := congrArg (fun y => y.getLsbD (i - 8)) (w8_shr b)
  simp only [BitVec.getLsbD_ushiftRight, BitVec.getLsbD_zero] at this
  rw [show 8 + (i - 8) = i by omega] at this
  exact this
theorem w8_inj {a b : UInt8} (h : w8 a = w8 b) : a = b := by
  have := congrArg BitVec.toNat h
  simp only [w8, BitVec.toNat_ofNat] at this
  have ha := a.toNat_lt
  have hb := b.toNat_lt
  rw [Nat.mod_eq_of_lt (by omega), Nat.mod_eq_of_lt (by omega)] at this
  exact UInt8.toNat_inj.1 this
theorem bits8_inj {a b : UInt8} (h : bits8 a = bits8 b) : a = b := by
  apply w8_inj
  apply BitVec.eq_of_getLsbD_eq
  intro i hi
  by_cases h8 : i < 8
  · have := congrArg (fun l => l[i]?) h
    simp only [bits8] at this
    rw [lows_get _ _ _ h8, lows_get _ _ _ h8] at this
    simpa using this
  · rw [w8_ge a i (by omega), w8_ge b i (by omega)]
theorem bits8_len (b : UInt8) : (bits8 b).length = 8 := lows_len 8 _
theorem flat_inj : ∀ (x y : List UInt8), x.length = y.length → x.flatMap bits8 = y.flatMap bits8 → x = y := by
  intro x
  induction x with
  | nil => intro y h _; cases y with
    | nil => rfl
    | cons b y => simp at h
  | cons a x ih => intro y h e; cases y with
    | nil => simp at h
    | cons b y =>
      rw [List.flatMap_cons, List.flatMap_cons] at e
      obtain ⟨e1, e2⟩ := List.append_inj e (by rw [bits8_len, bits8_len])
      rw [bits8_inj e1, ih y (by simpa using h) e2]
/-- every four bytes are a number's -/
theorem four_of (l : List UInt8) (h : l.length = 4) : ∃ n, l = four n := by
  have hl : (l.flatMap bits8).length = 32 := by rw [flat_len8, h]
  refine ⟨word (l.flatMap bits8), flat_inj _ _ (by rw [h]; rfl) ?_⟩
  have e := four_bits (word (l.flatMap bits8))
  have e2 := lows_word (l.flatMap bits8) (by omega)
  rw [hl] at e2
  rw [e, e2]
theorem four_len (n : W) : (four n).length = 4 := rfl
theorem four_inj {a b : W} (h : four a = four b) : a = b := by
  have h1 := four_bits a
  rw [h, four_bits b] at h1
  apply BitVec.eq_of_getLsbD_eq
  intro i hi
  have : (lows 32 b)[i]? = (lows 32 a)[i]? := by rw [h1]
  rw [lows_get _ _ _ hi, lows_get _ _ _ hi] at this
  simpa using this.symm

/-- A SEALED STRING -/
theorem sealed_state (c : W) (m : List UInt8) : adds c (m ++ four (~~~ adds c m)) = iter 32 ones := by
  rw [adds_app]
  exact (seal_iff _ _).2 rfl
theorem is_seal (c : W) (m q : List UInt8) (hq : q.length = 4) : q = four (~~~ adds c m) ↔ adds c (m ++ q) = iter 32 ones := by
  obtain ⟨n, rfl⟩ := four_of q hq
  rw [adds_app, seal_iff]
  exact ⟨fun h => four_inj h, fun h => by rw [h]⟩
/-- P2.5 -/
theorem refused {c : W} {l u : List UInt8} {mask : List Bool} (hm : mask.length = (l.flatMap bits8).length) (hu : u.flatMap bits8 = (l.flatMap bits8).zipWith Bool.xor mask) (hl : adds c l = iter 32 ones) (hb : run 0#32 mask ≠ 0#32) : adds c u ≠ iter 32 ones := by
  intro h
  rw [adds_run, hu] at h
  have := run_xor (l.flatMap bits8) mask c 0#32 hm.symm
  rw [BitVec.xor_zero, ← adds_run, hl] at this
  rw [this] at h
  have h2 := congrArg (fun y => iter 32 ones ^^^ y) h
  simp only [← BitVec.xor_assoc, BitVec.xor_self, BitVec.zero_xor] at h2
  exact hb h2

theorem w8_xor (a b : UInt8) : w8 (a ^^^ b) = w8 a ^^^ w8 b := by
  apply BitVec.eq_of_getLsbD_eq
  intro i hi
  rw [BitVec.getLsbD_xor]
  unfold w8
  rw [BitVec.getLsbD_ofNat, BitVec.getLsbD_ofNat, BitVec.getLsbD_ofNat, UInt8.toNat_xor, Nat.testBit_xor]
  simp [hi]
theorem upd_xor (c d : W) (a b : UInt8) : upd (c ^^^ d) (w8 (a ^^^ b)) = upd c (w8 a) ^^^ upd d (w8 b) := by
  rw [upd_iter _ _ (w8_shr _), upd_iter _ _ (w8_shr _), upd_iter _ _ (w8_shr _), ← iter_xor, w8_xor]
  congr 1
  rw [BitVec.xor_assoc, BitVec.xor_assoc, ← BitVec.xor_assoc d, ← BitVec.xor_assoc (w8 a), BitVec.xor_comm d (w8 a)]
/-- the exclusive or of two strings of one length -/
theorem adds_xor : ∀ (x y : List UInt8) (c d : W), x.length = y.length → adds (c ^^^ d) (x.zipWith (· ^^^ ·) y) = adds c x ^^^ adds d y := by
  intro x
  induction x with
  | nil => intro y c d h; cases y with
    | nil => rfl
    | cons b y => simp at h
  | cons a x ih => intro y c d h; cases y with
    | nil => simp at h
    | cons b y =>
      rw [List.zipWith_cons_cons]
      show adds (upd (c ^^^ d) (w8 (a ^^^ b))) _ = adds (upd c (w8 a)) x ^^^ adds (upd d (w8 b)) y
      rw [upd_xor, ih y _ _ (by simpa using h)]
/-- P2.6 -/
theorem linear3 (s : W) (a b c : List UInt8) (h1 : a.length = b.length) (h2 : a.length = c.length) :
    ~~~ adds s ((a.zipWith (· ^^^ ·) b).zipWith (· ^^^ ·) c) = (~~~ adds s a) ^^^ (~~~ adds s b) ^^^ (~~~ adds s c) := by
  have e := adds_xor (a.zipWith (· ^^^ ·) b) c (s ^^^ s) s (by simp; omega)
  rw [adds_xor a b s s h1] at e
  rw [BitVec.xor_self, BitVec.zero_xor] at e
  rw [e, not_ones, not_ones, not_ones, not_ones]
  generalize adds s a = x
  generalize adds s b = y
  generalize adds s c = z
  apply BitVec.eq_of_getLsbD_eq
  intro i hi
  simp only [BitVec.getLsbD_xor]
  cases x.getLsbD i <;> cases y.getLsbD i <;> cases z.getLsbD i <;> cases ones.getLsbD i <;> rfl
/-- P2.8 -/
theorem last4 (s : W) (p x y : List UInt8) (hx : x.length = 4) (hy : y.length = 4) : adds s (p ++ x) = adds s (p ++ y) ↔ x = y := by
  obtain ⟨n, rfl⟩ := four_of x hx
  obtain ⟨m, rfl⟩ := four_of y hy
  rw [adds_app, adds_app, adds_four, adds_four]
  constructor
  · intro h
    have := iter_inj 32 h
    have h2 := congrArg (fun z => adds s p ^^^ z) this
    simp only [← BitVec.xor_assoc, BitVec.xor_self, BitVec.zero_xor] at h2
    rw [h2]
  · intro h; rw [four_inj h]
end Go.Proofs.Ytpdpdmkfgbmdmaa.crcs
