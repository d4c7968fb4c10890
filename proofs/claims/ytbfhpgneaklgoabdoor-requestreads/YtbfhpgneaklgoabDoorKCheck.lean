/- seal.Keys: Check: the contract -/
import Derived.Test.YtbfhpgneaklgoabDoorKeys
namespace Go.Proofs.YtbfhpgneaklgoabDoor
open Go.RowKit
open Sha Tal
/-- a load behind a guard that says yes -/
theorem wpList_load_g {P : Program} {ops : Array Oper} {rest : List Oper} {op : Oper} {a : Act} {w : World} {Q : Exit → Act → World → Prop} (hgd : Region.wanted op (yielded ops a.tmps) = true) (ty : TypeId) (x : Operand) (ho : op.op = .load ty x)
    (b o : Nat) (hx : a.eval x = .pointer (some ⟨b, o, none⟩)) (cs : List Value) (d : TypeDesc) (hc : w.rangeAt b o cs)
    (hu : P.underlying ty = some d) (hd : d.isRow = true) (hi : (P.info? ty).map (·.size) = some cs.length)
    (h : wpList P ops Q rest (a.put op.dst (.agg cs.toArray)) w) : wpList P ops Q (op :: rest) a w :=
  wpList_step fun _ hK => by rw [if_pos hgd]; exact wp_load_mid ty x ho b o hx cs d hc hu hd hi (hK _ _ h)
/-- what Check answers -/
def checkOf (r : List Int × Int) (t : List Int) : Bool := (r.2 == 0) && (r.1 == t)
set_option maxRecDepth 20000 in
set_option maxHeartbeats 1000000 in
theorem kcheck_any (p : Option Addr) (ds : List (List Int)) (id : Int) (body : ByteArray) (t : List Int) (w : World) (hG : Glob w) (h : KeysAt w p ds) (hb : ds = [] ∨ body.size ≤ 100000) (ht : t.length = 16) :
    Calls Tryd.prog 28 #[.pointer p, .int .i64 id, .string body, .agg (v8 t).toArray] w fun e w' => e = .returned (.bool (checkOf (signOf ds id body) t)) ∧ Below w.heap.size w w' := by
  have hB0 : Below w.heap.size w (w.alloc (.cells (v8 t).toArray 31)) := (Below.refl _ _).alloc (Nat.le_refl _) _
  have hR0 := box_range w t 31
  have cs := ksign_any p ds id body _ (hG.below hB0) (h.below hB0) hb
  have hl := signOf_length ds id body
  unfold checkOf
  obtain ⟨r, hr⟩ : ∃ r, Hid ((signOf ds id body).1 = r) := ⟨_, hide rfl⟩
  obtain ⟨x, hx⟩ : ∃ x, Hid ((signOf ds id body).2 = x) := ⟨_, hide rfl⟩
  rw [hr.out, hx.out] at cs ⊢
  rw [hr.out] at hl
  obtain ⟨ct, hct⟩ : ∃ ct, Hid (v8 t = ct) := ⟨_, hide rfl⟩
  have hcl : ct.length = 16 := by rw [← hct.out, v8_length, ht]
  have heq := eql16 r t hl ht
  rw [hct.out] at hB0 hR0 cs heq ⊢
  clear hb
  go_enter Tryd.func28, Tryd.ntmps28
  go_wp2_with fail
  refine cs.mono ?_
  rintro e w1 ⟨rfl, hw1⟩
  clear cs
  have hB1 := hB0.trans (hw1.mono hB0.size)
  have hs1 := hw1.size
  simp only [World.size_alloc] at hs1
  have hR1 := range_below hR0 hw1 (by simp)
  have F := fresh_store w1 (Array.replicate 16 (.int .u8 0)) 31 (v8 r) (by rw [v8_length, hl]; rfl)
  have hN : (w1.alloc (.cells (Array.replicate 16 (.int .u8 0)) 31)).there w1.heap.size 0 (v8 r).toArray.size := by
    have e : (v8 r).toArray.size = 16 := by rw [List.size_toArray, v8_length, hl]
    rw [e]; exact (new_bytes w1 16 31).2
  have hi := info16 r hl
  have h1c := all_oneCell_toArray (v8_one r)
  go_upto_region 2 with (refine wpList_store_mid (op := ⟨none, .store 31 (.tmp 9) (.tmp 16), _, _, _, none⟩) rfl 31 _ _ rfl _ _ (v8 r).toArray rfl rfl hN hi h1c ?_)
  go_name_world w4 hw4
  rw [show (w1.alloc (.cells (Array.replicate 16 (.int .u8 0)) 31)).setCells w1.heap.size 0 (v8 r) = w4 from hw4] at F
  obtain ⟨hR4, hB4', hz4', _⟩ := F
  have hz4 : w1.heap.size < w4.heap.size := by omega
  clear hz4' hw4 hN h1c hw1 hR0
  have hB4 := hB1.trans (hB4'.mono hB1.size)
  have hR1' := range_below hR1 hB4' (by omega)
  have hl16 : (Tryd.prog.info? 31).map (·.size) = some (v8 r).length := by simpa using hi
  have hl16' : (Tryd.prog.info? 31).map (·.size) = some ct.length := by rw [hcl]; exact iszT
  try simp only [Act.put]
  clear hi
  clear hR1 hB4' hct
  by_cases hx0 : x = 0
  · subst hx0
    refine wp_region_list ?_
    refine wpList_plain rfl fun K hK => ?_
    go_simp
    refine hK _ _ ?_
    clear hK K
    refine wpList_plain rfl fun K hK => ?_
    go_simp
    refine hK _ _ ?_
    clear hK K
    refine wpList_plain rfl fun K hK => ?_
    go_simp
    refine hK _ _ ?_
    clear hK K
    refine wpList_load_g (by rfl) 31 _ rfl _ _ rfl (v8 r) _ hR4 Tryd.underlying31 rfl hl16 ?_
    refine wpList_load_g (by rfl) 31 _ rfl _ _ rfl ct _ hR1' Tryd.underlying31 rfl hl16' ?_
    go_wp2
    go_ret
    exact ⟨by simp, hB4⟩
  · have hx1 : (x == 0) = false := by simpa using hx0
    go_wp2
    go_ret
    exact ⟨by simp [hx0], hB4⟩
end Go.Proofs.YtbfhpgneaklgoabDoor
