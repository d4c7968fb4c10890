/- Bits of bytes, the check sum bit by bit, bursts: plain mathematics. Imports nothing of the translation. -/
import Derived.Test.YtiihfjoikoogfabMath
namespace Go.Proofs.Ytiihfjoikoogfab
namespace Crc

def top : BitVec 24 := BitVec.ofNat 24 8388608
/-- the sum behind n bits f -/
def crcB (x : BitVec 24) (f : Nat → Bool) : Nat → BitVec 24
  | 0 => x
  | n + 1 => T (crcB x f n ^^^ cond (f n) top 0)
def bitAt (l : List Int) (p : Nat) : Bool := (l.getD (p / 8) 0).toNat.testBit (7 - p % 8)

theorem crcB_xor (x y : BitVec 24) (f g : Nat → Bool) (n : Nat) : crcB (x ^^^ y) (fun p => f p ^^ g p) n = crcB x f n ^^^ crcB y g n := by
  induction n with
  | zero => rfl
  | succ n ih =>
    simp only [crcB, ih, T_xor]
    have tz : T (BitVec.ofNat 24 0) = BitVec.ofNat 24 0 := T_zero
    cases f n <;> cases g n <;> simp [BitVec.xor_assoc, BitVec.xor_comm, xor_left_comm, xor_cancel, tz]

theorem crcB_congr (x : BitVec 24) (f g : Nat → Bool) (n : Nat) (h : ∀ p, p < n → f p = g p) : crcB x f n = crcB x g n := by
  induction n with
  | zero => rfl
  | succ n ih => simp only [crcB]; rw [ih (fun p hp => h p (by omega)), h n (by omega)]

/-- eight bits from a place on -/
theorem crcB_eight (x : BitVec 24) (f : Nat → Bool) (n : Nat) :
    crcB x f (n + 8) = T8 (crcB x f n) ^^^ crcB 0 (fun p => f (n + p)) 8 := by
  have h : ∀ k, crcB x f (n + k) = crcB (crcB x f n) (fun p => f (n + p)) k := by
    intro k
    induction k with
    | zero => rfl
    | succ k ih => rw [← Nat.add_assoc]; simp only [crcB]; rw [ih]
  rw [h 8]
  have e := crcB_xor (crcB x f n) 0 (fun _ => false) (fun p => f (n + p)) 8
  simp only [Bool.false_xor, BitVec.ofNat_eq_ofNat, BitVec.xor_zero] at e
  rw [e]
  congr 1
  simp [crcB, T8, T4]

theorem byte_bits : ∀ c : Fin 256, T8 (BitVec.ofNat 24 c.val <<< 16) = crcB 0 (fun p => c.val.testBit (7 - p)) 8 := by decide +kernel

theorem step_bits (x : BitVec 24) (c : Int) (h0 : 0 ≤ c) (h1 : c < 256) : stepB x c = T8 x ^^^ crcB 0 (fun p => c.toNat.testBit (7 - p)) 8 := by
  unfold stepB
  rw [T8_xor]
  have := byte_bits ⟨c.toNat, by omega⟩
  simp only at this
  rw [← this]
  have e : BitVec.ofInt 24 c = BitVec.ofNat 24 c.toNat := by
    obtain ⟨n, rfl⟩ := Int.eq_ofNat_of_zero_le h0
    rw [BitVec.ofInt_natCast]; rfl
  rw [e]

theorem crc_bits (x : BitVec 24) (zs : List Int) (hz : ∀ z ∈ zs, 0 ≤ z ∧ z < 256) : crc x zs = crcB x (bitAt zs) (8 * zs.length) := by
  have h : ∀ k, k ≤ zs.length → crc x (zs.take k) = crcB x (bitAt zs) (8 * k) := by
    intro k
    induction k with
    | zero => intro _; simp [crc, crcB]
    | succ k ih =>
      intro hk
      have hlt : k < zs.length := by omega
      rw [List.take_succ_eq_append_getElem hlt, crc_append, ih (by omega)]
      show stepB (crcB x (bitAt zs) (8 * k)) zs[k] = crcB x (bitAt zs) (8 * k + 8)
      have hzk := hz zs[k] (List.getElem_mem hlt)
      rw [crcB_eight x (bitAt zs) (8 * k), step_bits _ _ hzk.1 hzk.2]
      congr 1
      apply crcB_congr
      intro p hp
      unfold bitAt
      have e1 : (8 * k + p) / 8 = k := by omega
      have e2 : (8 * k + p) % 8 = p := by omega
      rw [e1, e2, List.getD_eq_getElem?_getD, List.getElem?_eq_getElem hlt]
      rfl
  have := h zs.length (Nat.le_refl _)
  rwa [List.take_length] at this

theorem T_inj0 (x : BitVec 24) (h : T x = 0) : x = 0 := by
  cases hm : x.msb with
  | false =>
    have hx : x.toNat < 8388608 := by
      rw [BitVec.msb_eq_decide] at hm
      simp at hm; omega
    obtain ⟨a, b⟩ := T_low x hx
    rw [a] at h
    rw [h] at b
    apply BitVec.eq_of_toNat_eq
    simp at b ⊢
    omega
  | true =>
    unfold T at h
    rw [if_pos hm] at h
    have := congrArg (fun y : BitVec 24 => y.getLsbD 0) h
    simp at this
    exact absurd this (by decide)

def Tn : Nat → BitVec 24 → BitVec 24
  | 0, y => y
  | k + 1, y => T (Tn k y)
theorem Tn_xor (k : Nat) (x y : BitVec 24) : Tn k (x ^^^ y) = Tn k x ^^^ Tn k y := by
  induction k with
  | zero => rfl
  | succ k ih => simp only [Tn, ih, T_xor]
theorem Tn_zero (k : Nat) : Tn k 0 = 0 := by
  induction k with
  | zero => rfl
  | succ k ih => simp only [Tn, ih]; exact T_zero
theorem Tn_inj0 (k : Nat) (x : BitVec 24) (h : Tn k x = 0) : x = 0 := by
  induction k with
  | zero => exact h
  | succ k ih => exact ih (T_inj0 _ h)
theorem Tn_top : ∀ j : Fin 24, Tn j.val (BitVec.ofNat 24 (2 ^ (23 - j.val))) = top := by decide +kernel

/-- the bits at the top -/
def pack (f : Nat → Bool) : Nat → BitVec 24
  | 0 => 0
  | j + 1 => pack f j ^^^ cond (f j) (BitVec.ofNat 24 (2 ^ (23 - j))) 0

theorem crcB_pack (f : Nat → Bool) : ∀ j, j ≤ 24 → crcB 0 f j = Tn j (pack f j) := by
  intro j
  induction j with
  | zero => intro _; rfl
  | succ j ih =>
    intro hj
    simp only [crcB, pack, Tn]
    rw [ih (by omega), Tn_xor]
    congr 2
    cases f j with
    | false => exact (Tn_zero j).symm
    | true => exact (Tn_top ⟨j, by omega⟩).symm

theorem pow_bit : ∀ i j : Fin 24, (BitVec.ofNat 24 (2 ^ (23 - j.val))).getLsbD (23 - i.val) = decide (i = j) := by decide +kernel
theorem pack_bit (f : Nat → Bool) (i : Nat) (hi : i < 24) : ∀ j, j ≤ 24 → (pack f j).getLsbD (23 - i) = (decide (i < j) && f i) := by
  intro j
  induction j with
  | zero => intro _; simp [pack]
  | succ j ih =>
    intro hj
    simp only [pack, BitVec.getLsbD_xor]
    rw [ih (by omega)]
    have hp := pow_bit ⟨i, hi⟩ ⟨j, by omega⟩
    simp only [Fin.mk.injEq] at hp
    by_cases hij : i = j
    · subst hij
      have : decide (i < i) = false := by simp
      rw [this]
      cases hf : f i with
      | false => simp
      | true => simp only [cond_true]; rw [hp]; simp
    · have e : decide (i < j + 1) = decide (i < j) := by
        by_cases h : i < j
        · simp [h]; omega
        · have : ¬ i < j + 1 := by omega
          simp [h, this]
      rw [e]
      cases f j with
      | false => simp
      | true => simp only [cond_true]; rw [hp]; simp [hij]

/-- a burst of up to 24 bits is seen -/
theorem burst (f : Nat → Bool) (n j N : Nat) (hj : j ≤ 24) (hN : n + j ≤ N) (h0 : ∀ p, p < n → f p = false) (h1 : ∀ p, n + j ≤ p → f p = false) :
    crcB 0 f N = 0 ↔ ∀ i, i < j → f (n + i) = false := by
  have hz : ∀ m, m ≤ n → crcB 0 f m = 0 := by
    intro m
    induction m with
    | zero => intro _; rfl
    | succ m ih => intro hm; simp only [crcB]; rw [ih (by omega), h0 m (by omega)]; decide
  have hsh : ∀ k, crcB 0 f (n + k) = crcB 0 (fun p => f (n + p)) k := by
    intro k
    induction k with
    | zero => exact hz n (Nat.le_refl _)
    | succ k ih => rw [← Nat.add_assoc]; simp only [crcB]; rw [ih]
  have htail : ∀ r, crcB 0 f (n + j + r) = Tn r (crcB 0 f (n + j)) := by
    intro r
    induction r with
    | zero => rfl
    | succ r ih =>
      rw [← Nat.add_assoc]
      simp only [crcB, Tn]
      rw [ih, h1 (n + j + r) (by omega)]
      simp
  have eN : N = n + j + (N - (n + j)) := by omega
  rw [eN, htail, hsh, crcB_pack _ j hj]
  constructor
  · intro h i hi
    have hp := Tn_inj0 _ _ (Tn_inj0 _ _ h)
    have hb := pack_bit (fun p => f (n + p)) i (by omega) j hj
    rw [hp] at hb
    simp [hi] at hb
    exact hb
  · intro h
    have : pack (fun p => f (n + p)) j = 0 := by
      have : ∀ m, m ≤ j → pack (fun p => f (n + p)) m = 0 := by
        intro m
        induction m with
        | zero => intro _; rfl
        | succ m ih => intro hm; simp only [pack]; rw [ih (by omega), h m (by omega)]; simp
      exact this j (Nat.le_refl _)
    rw [this, Tn_zero, Tn_zero]

/-- which bits were turned so far: of bits B from place n on, i of them -/
def tog (B : Nat) (n i p : Nat) : Bool := decide (n ≤ p ∧ p < n + i) && B.testBit (p - n)

theorem tog_succ (B n i p : Nat) : tog B n (i + 1) p = (tog B n i p ^^ (decide (p = n + i) && B.testBit i)) := by
  unfold tog
  by_cases h : p = n + i
  · subst h
    have : n + i - n = i := by omega
    simp [this]
  · have e : (n ≤ p ∧ p < n + (i + 1)) ↔ (n ≤ p ∧ p < n + i) := by omega
    simp [h, e]

theorem pow_shift : ∀ r : Fin 8, ∀ q : Fin 8, (128 / 2 ^ r.val : Nat).testBit (7 - q.val) = decide (q = r) := by decide
/-- a bit of a byte turned about -/
theorem flip_bit (ys : List Int) (p0 : Nat) (z' : Int) (hp : p0 / 8 < ys.length) (hz' : z'.toNat = (ys.getD (p0 / 8) 0).toNat ^^^ (128 / 2 ^ (p0 % 8))) (p : Nat) :
    bitAt (ys.set (p0 / 8) z') p = (bitAt ys p ^^ decide (p = p0)) := by
  unfold bitAt
  by_cases hb : p / 8 = p0 / 8
  · rw [hb, List.getD_eq_getElem?_getD, List.getElem?_set_self hp]
    simp only [Option.getD_some]
    rw [hz', Nat.testBit_xor]
    congr 1
    have := pow_shift ⟨p0 % 8, by omega⟩ ⟨p % 8, by omega⟩
    simp only [Fin.mk.injEq] at this
    rw [this]
    congr 1
    apply propext
    omega
  · have hne : p ≠ p0 := fun h => hb (by rw [h])
    rw [List.getD_eq_getElem?_getD, List.getElem?_set_ne (by omega), ← List.getD_eq_getElem?_getD]
    simp [hne]
end Crc
end Go.Proofs.Ytiihfjoikoogfab
