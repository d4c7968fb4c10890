/- PLAIN MATHEMATICS OF THE CHECK SUM: bit steps on 24 bits, linear and one to one; four bits at once are the table's; byte steps; bursts. Imports nothing of the translation. -/
namespace Go.Proofs.Ytiihfjoikoogfab
namespace Crc

def poly : BitVec 24 := BitVec.ofNat 24 8801531
/-- one bit's stepB -/
def T (x : BitVec 24) : BitVec 24 := (x <<< 1) ^^^ (if x.msb then poly else (0 : BitVec 24))
def T4 (x : BitVec 24) : BitVec 24 := T (T (T (T x)))
def T8 (x : BitVec 24) : BitVec 24 := T4 (T4 x)
/-- a byte's stepB -/
def stepB (x : BitVec 24) (c : Int) : BitVec 24 := T8 (x ^^^ (BitVec.ofInt 24 c <<< 16))
def crc (x : BitVec 24) (zs : List Int) : BitVec 24 := zs.foldl stepB x

theorem xor_left_comm (x y z : BitVec 24) : x ^^^ (y ^^^ z) = y ^^^ (x ^^^ z) := by
  rw [← BitVec.xor_assoc, BitVec.xor_comm x y, BitVec.xor_assoc]
theorem xor_cancel (x y : BitVec 24) : x ^^^ (x ^^^ y) = y := by
  rw [← BitVec.xor_assoc, BitVec.xor_self, BitVec.zero_xor]

theorem T_xor (x y : BitVec 24) : T (x ^^^ y) = T x ^^^ T y := by
  unfold T
  rw [BitVec.shiftLeft_xor_distrib, BitVec.msb_xor]
  cases x.msb <;> cases y.msb <;> simp [BitVec.xor_assoc, BitVec.xor_comm, xor_left_comm, xor_cancel]
theorem T4_xor (x y : BitVec 24) : T4 (x ^^^ y) = T4 x ^^^ T4 y := by unfold T4; simp only [T_xor]
theorem T8_xor (x y : BitVec 24) : T8 (x ^^^ y) = T8 x ^^^ T8 y := by unfold T8; simp only [T4_xor]
theorem T_zero : T (0 : BitVec 24) = (0 : BitVec 24) := by decide
theorem T8_zero : T8 (0 : BitVec 24) = (0 : BitVec 24) := by decide

def tab : List Nat := [0, 8801531, 9098509, 825846, 9692897, 1419802, 1651692, 10452759, 10584377, 2608578, 2839604, 11344079, 3303384, 11807523, 12104405, 4128302]

theorem T_low (x : BitVec 24) (h : x.toNat < 8388608) : T x = x <<< 1 ∧ (x <<< 1).toNat = 2 * x.toNat := by
  have hm : x.msb = false := by rw [BitVec.msb_eq_decide]; simp; omega
  refine ⟨by simp [T, hm], ?_⟩
  rw [BitVec.toNat_shiftLeft]; simp [Nat.shiftLeft_eq]; omega

theorem T4_low (x : BitVec 24) (h : x.toNat < 1048576) : (T4 x).toNat = 16 * x.toNat := by
  obtain ⟨a1, b1⟩ := T_low x (by omega)
  obtain ⟨a2, b2⟩ := T_low (T x) (by rw [a1, b1]; omega)
  obtain ⟨a3, b3⟩ := T_low (T (T x)) (by rw [a2, b2, a1, b1]; omega)
  obtain ⟨a4, b4⟩ := T_low (T (T (T x))) (by rw [a3, b3, a2, b2, a1, b1]; omega)
  unfold T4
  rw [a4, b4, a3, b3, a2, b2, a1, b1]; omega

theorem T4_tab : ∀ i : Fin 16, (T4 (BitVec.ofNat 24 (i.val * 1048576))).toNat = tab.getD i.val 0 := by decide

/-- four bits at once -/
theorem T4_nib (x : BitVec 24) : (T4 x).toNat = (x.toNat % 1048576 * 16) ^^^ (tab.getD (x.toNat / 1048576) 0) := by
  have hx := x.isLt
  have hsplit : x = BitVec.ofNat 24 (x.toNat % 1048576) ^^^ BitVec.ofNat 24 (x.toNat / 1048576 * 1048576) := by
    apply BitVec.eq_of_toNat_eq
    rw [BitVec.toNat_xor, BitVec.toNat_ofNat, BitVec.toNat_ofNat, Nat.mod_eq_of_lt (show x.toNat % 1048576 < 2 ^ 24 by omega), Nat.mod_eq_of_lt (show x.toNat / 1048576 * 1048576 < 2 ^ 24 by omega)]
    have e := Nat.shiftLeft_add_eq_or_of_lt (b := x.toNat % 1048576) (i := 20) (by omega) (x.toNat / 1048576)
    have : (x.toNat / 1048576) <<< 20 = x.toNat / 1048576 * 1048576 := by rw [Nat.shiftLeft_eq]
    rw [this] at e
    apply Nat.eq_of_testBit_eq
    intro i
    rw [Nat.testBit_xor]
    have h1 : (x.toNat / 1048576 * 1048576).testBit i = (decide (20 ≤ i) && (x.toNat / 1048576).testBit (i - 20)) := by
      rw [← this, Nat.testBit_shiftLeft]
    have h2 : (x.toNat % 1048576).testBit i = (decide (i < 20) && x.toNat.testBit i) := by
      exact Nat.testBit_mod_two_pow x.toNat 20 i
    have h3 : (x.toNat / 1048576).testBit (i - 20) = x.toNat.testBit (i - 20 + 20) := by
      exact Nat.testBit_div_two_pow (n := 20) x.toNat (i - 20)
    rw [h1, h2, h3]
    by_cases hi : i < 20
    · have : ¬ 20 ≤ i := by omega
      simp [hi, this]
    · have h20 : 20 ≤ i := by omega
      have : i - 20 + 20 = i := by omega
      simp [hi, h20, this]
  have e := T4_xor (BitVec.ofNat 24 (x.toNat % 1048576)) (BitVec.ofNat 24 (x.toNat / 1048576 * 1048576))
  rw [← hsplit] at e
  rw [e, BitVec.toNat_xor, T4_low _ (by rw [BitVec.toNat_ofNat]; omega)]
  have h16 := T4_tab ⟨x.toNat / 1048576, by omega⟩
  simp only at h16
  rw [h16, BitVec.toNat_ofNat, Nat.mod_eq_of_lt (by omega)]
  congr 1; omega

theorem stepB_lt (x : BitVec 24) (c : Int) : (stepB x c).toNat < 16777216 := (stepB x c).isLt
theorem crc_append (x : BitVec 24) (a b : List Int) : crc x (a ++ b) = crc (crc x a) b := by simp [crc, List.foldl_append]

end Crc
end Go.Proofs.Ytiihfjoikoogfab
