/- the law of a key's own tags: the walk -/
import Derived.Test.YtkadfmbpajbkiabDoorDerive
import Derived.Test.YtkadfmbpajbkiabDoorKCheck
import Derived.Test.YtkadfmbpajbkiabDoorLives4
namespace Go.Proofs.YtkadfmbpajbkiabDoor
open Go.RowKit
open Sha Tal
theorem umodc (z : Int) (m : Nat) (h0 : 0 < m) (hm : m ≤ 65536) : ∃ p : Nat, p < m ∧ wrap64 ((IntKind.u64.wrap z).tmod (m : Int)) = (p : Int) := by
  rw [IntKind.wrap_u64]
  have h0' : 0 ≤ z % 18446744073709551616 := Int.emod_nonneg _ (by decide)
  generalize z % 18446744073709551616 = q at h0'
  rw [Int.tmod_eq_emod_of_nonneg h0']
  have h1 := Int.emod_nonneg q (b := (m : Int)) (by omega)
  have h2 := Int.emod_lt_of_pos q (b := (m : Int)) (by omega)
  refine ⟨(q % (m : Int)).toNat, by omega, ?_⟩
  generalize q % (m : Int) = r at h1 h2
  simp only [wrap64]
  omega
theorem sign_ok (seed : ByteArray) (n k : Nat) (hk : k < n) (body : ByteArray) : (signOf (keysOf seed n) (k : Int) body).2 = 0 := by
  unfold signOf
  have h0 : keysOf seed n ≠ [] := fun h => by have := keysOf_length seed n; rw [h] at this; simp at this; omega
  rw [if_neg h0, keysOf_length, if_neg (by omega)]
theorem xor_zero_iff (x t : Int) (hx : 0 ≤ x ∧ x < 256) (ht : 0 ≤ t ∧ t < 256) : (bits .xor .u8 x t = x) ↔ t = 0 := by
  obtain ⟨a, rfl⟩ := Int.eq_ofNat_of_zero_le hx.1
  obtain ⟨b, rfl⟩ := Int.eq_ofNat_of_zero_le ht.1
  have e : bits .xor .u8 (a : Int) (b : Int) = ((a ^^^ b : Nat) : Int) := by
    show IntKind.u8.wrap (((BitVec.ofInt 8 (a : Int) ^^^ BitVec.ofInt 8 (b : Int)).toNat : Nat) : Int) = _
    have q : ∀ c : Nat, c < 256 → (BitVec.ofInt 8 (c : Int)).toNat = c := fun c hc => by
      rw [BitVec.ofInt_natCast, BitVec.toNat_ofNat]; exact Nat.mod_eq_of_lt hc
    rw [BitVec.toNat_xor, q a (by omega), q b (by omega), IntKind.wrap_u8]
    have := Nat.xor_lt_two_pow (x := a) (y := b) (n := 8) (by omega) (by omega)
    omega
  rw [e]
  constructor
  · intro h
    have h' : a ^^^ b = a := by omega
    have : b = 0 := by
      have h2 : a ^^^ (a ^^^ b) = a ^^^ a := by rw [h']
      rw [← Nat.xor_assoc, Nat.xor_self, Nat.zero_xor] at h2
      exact h2
    omega
  · intro h
    have : b = 0 := by omega
    subst this
    rw [Nat.xor_zero]
theorem xor_byte (x t : Int) : 0 ≤ bits .xor .u8 x t ∧ bits .xor .u8 x t < 256 := by
  show 0 ≤ IntKind.u8.wrap _ ∧ IntKind.u8.wrap _ < 256
  rw [IntKind.wrap_u8]; omega
theorem tag_turned (t : List Int) (ht : t.length = 16) (ho : ∀ z ∈ t, 0 ≤ z ∧ z < 256) (q : Nat) (hq : q < 16) (x : Int) (hx : 0 ≤ x ∧ x < 256) : (t == t.set q (bits .xor .u8 (t.getD q 0) x)) = (x == 0) := by
  have hql : q < t.length := by omega
  have hg : t.getD q 0 = t[q] := by rw [List.getD_eq_getElem?_getD, List.getElem?_eq_getElem hql]; rfl
  have hb := ho _ (List.getElem_mem hql)
  rw [hg, Bool.eq_iff_iff]
  simp only [beq_iff_eq]
  constructor
  · intro h
    have : t[q] = (t.set q (bits .xor .u8 t[q] x))[q]'(by simpa using hql) := by
      congr 1
    rw [List.getElem_set_self] at this
    exact (xor_zero_iff _ _ hb hx).1 this.symm
  · intro h
    rw [(xor_zero_iff _ _ hb hx).2 h, List.set_getElem_self]
set_option maxRecDepth 20000 in
set_option maxHeartbeats 2000000 in
theorem own_walk (seed : ByteArray) (id : Int) (body : ByteArray) (at_ : Int) (turn : Int) (w : World) (hG : Glob w) (hturn : 0 ≤ turn ∧ turn < 256) (l0 : seed.size ≤ 64) (l1 : body.size ≤ 2000) :
   Calls Tryd.prog 4 #[.string seed, .int .i64 id, .string body, .int .i64 at_, .int .u8 turn] w fun e w' => e = .returned (.bool true) ∧ Below w.heap.size w w' := by
  have t0 : ¬ (64 : Int) < seed.size := by omega
  have t1 : ¬ (2000 : Int) < body.size := by omega
  obtain ⟨n, hn, en⟩ := umodc id 4096 (by omega) (by omega)
  have en' : wrap64 ((IntKind.u64.wrap id).tmod 4096) = (n : Int) := en
  obtain ⟨q, hq, eq⟩ := umodc at_ 16 (by omega) (by omega)
  have eq' : wrap64 ((IntKind.u64.wrap at_).tmod 16) = (q : Int) := eq
  clear en eq
  have cd := derive_yes seed 4096 w hG (by omega) (by omega) l0
  have hsl := signOf_length (keysOf seed 4096) (n : Int) body
  have hso := signOf_ok (keysOf seed 4096) (n : Int) body
  have hse := sign_ok seed 4096 n hn body
  have hkl : (keysOf seed 4096).length = 4096 := keysOf_length _ _
  have cs := fun p w (hG : Glob w) (h : KeysAt w p (keysOf seed 4096)) => ksign_any p (keysOf seed 4096) (n : Int) body w hG h (Or.inr (by omega))
  have cc := fun p w t (hG : Glob w) (h : KeysAt w p (keysOf seed 4096)) (ht : t.length = 16) => kcheck_any p (keysOf seed 4096) (n : Int) body t w hG h (Or.inr (by omega)) ht
  have es : signOf (keysOf seed 4096) (n : Int) body = ((signOf (keysOf seed 4096) (n : Int) body).1, 0) := by rw [← hse]
  obtain ⟨t, ht⟩ : ∃ t, Hid ((signOf (keysOf seed 4096) (n : Int) body).1 = t) := ⟨_, hide rfl⟩
  rw [ht.out] at es hsl hso
  simp only [es] at cs cc
  clear es hse ht
  have cdn : ((4096 : Nat) : Int) = 4096 := rfl
  rw [cdn] at cd
  clear cdn
  generalize keysOf seed 4096 = ds at *
  go_enter Tryd.func4, Tryd.ntmps4
  go_wp2_with fail
  refine cd.mono ?_
  rintro e w1 ⟨p, rfl, _, hk1, hw1⟩
  clear cd
  have c1 := cs p w1 (hG.below hw1) hk1
  go_wp2_with fail
  refine c1.mono ?_
  rintro e w2 ⟨rfl, hw2⟩
  clear c1 cs
  have hB2 := hw1.trans (hw2.mono hw1.size)
  have F := fresh_store w2 (Array.replicate 16 (.int .u8 0)) 23 (v8 t) (by rw [v8_length, hsl]; rfl)
  have hN : (w2.alloc (.cells (Array.replicate 16 (.int .u8 0)) 23)).there w2.heap.size 0 (v8 t).toArray.size := by
    have e : (v8 t).toArray.size = 16 := by rw [List.size_toArray, v8_length, hsl]
    rw [e]; exact (new_bytes w2 16 23).2
  have hi := info16 t hsl
  have h1c := all_oneCell_toArray (v8_one t)
  go_upto_region 6 with (refine wpList_store_mid (op := ⟨none, .store 23 (.tmp 13) (.tmp 36), _, _, _, none⟩) rfl 23 _ _ rfl _ _ (v8 t).toArray rfl rfl hN hi h1c ?_)
  go_name_world w3 hw3
  rw [show (w2.alloc (.cells (Array.replicate 16 (.int .u8 0)) 23)).setCells w2.heap.size 0 (v8 t) = w3 from hw3] at F
  obtain ⟨hR3, hB3', hz3', _⟩ := F
  have hz3 : w2.heap.size < w3.heap.size := by omega
  clear hz3' hw3 hN
  have hB3 := hB2.trans (hB3'.mono hB2.size)
  have hk3 := (hk1.below hw2).below hB3'
  have c2 := cc p w3 t (hG.below hB3) hk3 hsl
  have ec : checkOf (t, 0) t = true := by simp [checkOf]
  rw [ec] at c2
  clear ec hB3' hw2 hk1 hB2
  have hl16 : (Tryd.prog.info? 23).map (·.size) = some (v8 t).length := by simpa using hi
  try simp only [Act.put]
  refine wp_region_list ?_
  refine wpList_step fun K hK => ?_
  go_simp
  refine hK _ _ ?_
  clear hK K
  refine wpList_step fun K hK => ?_
  go_simp
  refine hK _ _ ?_
  clear hK K
  refine wpList_step fun K hK => ?_
  go_simp
  refine hK _ _ ?_
  clear hK K
  refine wpList_step fun K hK => ?_
  go_simp
  refine hK _ _ ?_
  clear hK K
  refine wpList_step fun K hK => ?_
  go_simp
  refine hK _ _ ?_
  clear hK K
  refine wpList_step fun K hK => ?_
  go_simp
  refine hK _ _ ?_
  clear hK K
  refine wpList_load_g (by rfl) 23 _ rfl _ _ rfl (v8 t) _ hR3 Tryd.underlying23 rfl hl16 ?_
  go_wp2_with fail
  refine c2.mono ?_
  rintro e w4 ⟨rfl, hw4⟩
  clear c2
  have hB4 := hB3.trans (hw4.mono hB3.size)
  have hk4 := hk3.below hw4
  have hR4 := range_below hR3 hw4 hz3
  have F := fresh_store w4 (Array.replicate 16 (.int .u8 0)) 23 (v8 t) (by rw [v8_length, hsl]; rfl)
  have hN : (w4.alloc (.cells (Array.replicate 16 (.int .u8 0)) 23)).there w4.heap.size 0 (v8 t).toArray.size := by
    have e : (v8 t).toArray.size = 16 := by rw [List.size_toArray, v8_length, hsl]
    rw [e]; exact (new_bytes w4 16 23).2
  go_upto_region 8 with fail
  refine wp_region_list ?_
  refine wpList_load_mid rfl 23 _ rfl _ _ rfl (v8 t) _ hR4 Tryd.underlying23 rfl hl16 ?_
  go_upto_region 9 with (refine wpList_store_mid (op := ⟨none, .store 23 (.tmp 15) (.tmp 48), _, _, _, none⟩) rfl 23 _ _ rfl _ _ (v8 t).toArray rfl rfl hN hi h1c ?_)
  go_name_world w5 hw5
  rw [show (w4.alloc (.cells (Array.replicate 16 (.int .u8 0)) 23)).setCells w4.heap.size 0 (v8 t) = w5 from hw5] at F
  clear hw5
  try simp only [Act.put]
  obtain ⟨hR5, hB5', hz5', hT5⟩ := F
  have hB5 := hB4.trans (hB5'.mono hB4.size)
  have hk5 := hk4.below hB5'
  have hz5 : w4.heap.size < w5.heap.size := by omega
  obtain ⟨X, hX⟩ : ∃ X, w4.heap.size = X := ⟨_, rfl⟩
  have hwX : w.heap.size ≤ X := by have := hB4.size; omega
  have hB5k : Below X w4 w5 := by rw [← hX]; exact hB5'
  rw [hX] at hR5 hT5 hz5 ⊢
  have hk5x : KeysAt w4 p ds := hk4
  clear hz5' hN hR3 hR4 hk3 hw4 hB5' hB3 hi h1c
  have hql : q < t.length := by omega
  have hcq := get8 hR5 hql
  rw [Nat.zero_add] at hcq
  have hfq := (hT5 q (by simpa using hq)).2
  rw [Nat.zero_add] at hfq
  obtain ⟨b, hbq⟩ : ∃ b, Hid (t.getD q 0 = b) := ⟨_, hide rfl⟩
  rw [hbq.out] at hcq
  obtain ⟨x, hxb⟩ : ∃ x, Hid (bits .xor .u8 b turn = x) := ⟨_, hide rfl⟩
  have hR6 := range_set hR5 q (.int .u8 x)
  rw [Nat.zero_add, v8_set] at hR6
  have hB6 := hB5.setCell (p := ⟨X, q, none⟩) hwX (.int .u8 x)
  have hB6k := (hB5k.setCell (p := ⟨X, q, none⟩) (Nat.le_refl _) (.int .u8 x))
  have hk6 : KeysAt (w5.setCell ⟨X, q, none⟩ (.int .u8 x)) p ds := hk4.below (by rw [hX]; exact hB6k)
  have hul : (t.set q x).length = 16 := by rw [List.length_set, hsl]
  have c3 := cc p (w5.setCell ⟨X, q, none⟩ (.int .u8 x)) (t.set q x) (hG.below hB6) hk6 hul
  have ec : checkOf (t, 0) (t.set q x) = (turn == 0) := by
    simp only [checkOf]
    have := tag_turned t hsl hso q hq turn hturn
    rw [hbq.out, hxb.out] at this
    rw [this]; rfl
  rw [ec] at c3
  have hl16u : (Tryd.prog.info? 23).map (·.size) = some (v8 (t.set q x)).length := by simpa using info16 _ hul
  obtain ⟨w6, hw6⟩ : ∃ w6, w5.setCell ⟨X, q, none⟩ (.int .u8 x) = w6 := ⟨_, rfl⟩
  rw [hw6] at c3 hR6 hB6
  have HW6 := hide hw6
  clear ec hk6 hB6k hw6 hk5 hk5x hB5k cc
  go_upto_region 10 with fail
  rw [hxb.out, HW6.out]
  refine wp_region_list ?_
  refine wpList_step fun K hK => ?_
  go_simp
  refine hK _ _ ?_
  clear hK K
  refine wpList_step fun K hK => ?_
  go_simp
  refine hK _ _ ?_
  clear hK K
  refine wpList_step fun K hK => ?_
  go_simp
  refine hK _ _ ?_
  clear hK K
  refine wpList_load_mid rfl 23 _ rfl _ _ rfl (v8 (t.set q x)) _ hR6 Tryd.underlying23 rfl hl16u ?_
  clear HW6 hcq hfq hR5 hT5 hR6 hl16u hl16
  go_wp2_with fail
  refine c3.mono ?_
  rintro e w7 ⟨rfl, hw7⟩
  clear c3
  have hB7 := hB6.trans (hw7.mono hB6.size)
  cases hz : (turn == 0)
  · go_wp2_with (go_at_call 7; refine (lives4_any _ (hG.below hB7)).mono ?_; rintro e w9 ⟨rfl, hw9⟩)
    go_ret
    exact ⟨rfl, hB7.trans (hw9.mono hB7.size)⟩
  · go_wp2_with (go_at_call 7; refine (lives4_any _ (hG.below hB7)).mono ?_; rintro e w9 ⟨rfl, hw9⟩)
    go_ret
    exact ⟨rfl, hB7.trans (hw9.mono hB7.size)⟩
set_option maxHeartbeats 1000000 in
theorem own_any (seed : ByteArray) (id : Int) (body : ByteArray) (at_ : Int) (turn : Int) (w : World) (hG : Glob w) (hturn : 0 ≤ turn ∧ turn < 256) :
   Calls Tryd.prog 4 #[.string seed, .int .i64 id, .string body, .int .i64 at_, .int .u8 turn] w fun e w' => e = .returned (.bool true) ∧ Below w.heap.size w w' := by
  by_cases g0 : 64 < seed.size
  · have g0' : (64 : Int) < seed.size := by omega
    go_enter Tryd.func4, Tryd.ntmps4
    go_wp2_with (go_at_call 7; refine (lives4_any _ hG).mono ?_; rintro e w9 ⟨rfl, hw9⟩)
    go_ret
    exact ⟨rfl, hw9⟩
  · by_cases g1 : 2000 < body.size
    · have g0' : ¬ (64 : Int) < seed.size := by omega
      have g1' : (2000 : Int) < body.size := by omega
      go_enter Tryd.func4, Tryd.ntmps4
      go_wp2_with (go_at_call 7; refine (lives4_any _ hG).mono ?_; rintro e w9 ⟨rfl, hw9⟩)
      go_ret
      exact ⟨rfl, hw9⟩
    · exact own_walk seed id body at_ turn w hG hturn (by omega) (by omega)
end Go.Proofs.YtkadfmbpajbkiabDoor
