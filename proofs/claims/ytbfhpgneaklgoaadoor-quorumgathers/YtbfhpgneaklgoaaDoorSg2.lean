/- signs: where one is put; search, Clone -/
import Derived.Test.YtbfhpgneaklgoaaDoorSg1
import Derived.Test.YtbfhpgneaklgoaaDoorHeld
import Derived.Deep.Cut
import Derived.Deep.RegionWith
import Derived.RegionTactic
import Derived.WalkSpells
import Derived.Lib.SliceRun
import Derived.Lib.ItoaWalk
import Derived.Outline
import Derived.BigRegion
import Derived.ChangeAlike
namespace Go.Proofs.YtbfhpgneaklgoaaDoor
open Go.RowKit
def idx (p : Sg → Bool) : List Sg → Nat
  | [] => 0
  | x :: l => if p x then 0 else idx p l + 1
theorem idx_le (p : Sg → Bool) : ∀ l, idx p l ≤ l.length
  | [] => by simp [idx]
  | x :: l => by have := idx_le p l; unfold idx; split <;> simp; omega
theorem idx_at (p : Sg → Bool) : ∀ (l : List Sg) (k : Nat) (hk : k < l.length), p l[k] = true → (∀ j, (hj : j < k) → p (l[j]'(by omega)) = false) → idx p l = k
  | x :: l, 0, _, h, _ => by simp at h; simp [idx, h]
  | x :: l, k + 1, hk, h, hj => by
    have h0 := hj 0 (by omega)
    simp at h0
    have ih := idx_at p l k (by simpa using hk) (by simpa using h) (fun j hjk => by have := hj (j + 1) (by omega); simpa using this)
    simp [idx, h0, ih]
theorem idx_none (p : Sg → Bool) : ∀ (l : List Sg), (∀ j, (hj : j < l.length) → p l[j] = false) → idx p l = l.length
  | [], _ => rfl
  | x :: l, h => by
    have h0 := h 0 (by simp)
    simp at h0
    have ih := idx_none p l (fun j hj => by have := h (j + 1) (by simpa using hj); simpa using this)
    simp [idx, h0, ih]
theorem idx_lt (p : Sg → Bool) : ∀ (l : List Sg), idx p l < l.length ↔ l.any p = true
  | [] => by simp [idx]
  | x :: l => by
    have ih := idx_lt p l
    unfold idx
    cases hx : p x
    · simp [hx, ih]
    · simp [hx]
def eqN (s x : Sg) : Bool := x.n == s.n
def gtN (s x : Sg) : Bool := decide (s.n < x.n)
def insS (s : Sg) : List Sg → List Sg
  | [] => [s]
  | x :: l => if gtN s x then s :: x :: l else x :: insS s l
theorem insS_take (s : Sg) : ∀ l, l.take (idx (gtN s) l) ++ (s :: l.drop (idx (gtN s) l)) = insS s l
  | [] => rfl
  | x :: l => by
    have ih := insS_take s l
    unfold idx insS
    cases hx : gtN s x
    · simp only [Bool.false_eq_true, if_false, List.take_succ_cons, List.drop_succ_cons, List.cons_append, ih]
    · simp
def addS (l : List Sg) (s : Sg) : List Sg := if l.any (eqN s) then l else insS s l
theorem insS_length (s : Sg) : ∀ l, (insS s l).length = l.length + 1
  | [] => rfl
  | x :: l => by
    have := insS_length s l
    unfold insS
    split <;> simp [this]
theorem insS_ok {s : Sg} (hs : s.ok) : ∀ l, (∀ r ∈ l, r.ok) → ∀ r ∈ insS s l, r.ok
  | [], _ => by intro r hr; obtain rfl := List.mem_singleton.1 hr; exact hs
  | x :: l, h => by
    have ih := insS_ok hs l (fun r hr => h r (by simp [hr]))
    unfold insS
    split
    · intro r hr
      rcases List.mem_cons.1 hr with rfl | hr
      · exact hs
      · exact h r hr
    · intro r hr
      rcases List.mem_cons.1 hr with rfl | hr
      · exact h _ (by simp)
      · exact ih r hr
theorem Sg.ok.isz {r : Sg} (h : r.ok) : (Tryd.prog.info? 43).map (·.size) = some r.cells.length := by rw [h.length]; kernel_rfl
theorem Sg.ok.iszA {r : Sg} (h : r.ok) : (Tryd.prog.info? 43).map (·.size) = some r.cells.toArray.size := by rw [List.size_toArray, h.length]; kernel_rfl
/-- signs of the call's own -/
def SOwn (w : World) (B : Nat) (v : Value) (rs : List Sg) : Prop := w.ownsRow B 43 17 v rs.length (flatS rs) ∧ ∀ r ∈ rs, r.ok
theorem SOwn.below {w w' : World} {B : Nat} {v : Value} {rs : List Sg} (h : SOwn w B v rs) (hb : Below w.heap.size w w') : SOwn w' B v rs := by
  refine ⟨⟨h.1.1, ?_⟩, h.2⟩
  rcases h.1.2 with h | ⟨g, cap, cur, hv, hg, hh, r⟩
  · exact .inl h
  · exact .inr ⟨g, cap, cur, hv, hg, by rw [hb.block g (Array.getElem?_eq_some_iff.1 hh).1]; exact hh, r⟩
theorem SOwn.sigs {w : World} {B : Nat} {v : Value} {rs : List Sg} (h : SOwn w B v rs) (hm : rs.length ≤ maxLen) : ∃ a cap, v = .slice a rs.length cap ∧ rs.length ≤ cap ∧ cap ≤ maxLen ∧ SigsAt w a rs ∧ ∀ x, a = some x → B ≤ x.block := by
  rcases h.1.2 with ⟨rfl, h0⟩ | ⟨g, cap, cur, rfl, hb, hg, hn, hcm, hcs, ht⟩
  · have : rs = [] := List.eq_nil_of_length_eq_zero h0
    subst this
    exact ⟨none, 0, rfl, by simp, by unfold maxLen; omega, SigsAt.none, fun x hx => by cases hx⟩
  · refine ⟨_, cap, rfl, hn, hcm, ⟨hm, h.2, Or.inr ⟨g, 0, rfl, (Array.getElem?_eq_some_iff.1 hg).1, fun j u hu => ?_⟩⟩, fun x hx => by cases hx; exact hb⟩
    have := h.1.cells (g := g) rfl j u hu
    rwa [Addr.add_mid] at this
theorem SOwn.mono {w : World} {B B' : Nat} {v : Value} {rs : List Sg} (h : SOwn w B v rs) (hB : B' ≤ B) : SOwn w B' v rs := by
  refine ⟨⟨h.1.1, ?_⟩, h.2⟩
  rcases h.1.2 with h | ⟨g, cap, cur, hv, hg, r⟩
  · exact .inl h
  · exact .inr ⟨g, cap, cur, hv, Nat.le_trans hB hg, r⟩
theorem SigsAt.src {w : World} {a : Option Addr} {rs : List Sg} (h : SigsAt w a rs) (cap : Nat) : Src Tryd.prog 17 22 (.slice a rs.length cap) rs.length (flatS rs) w := by
  cases a with
  | none =>
    have : rs = [] := by
      rcases h.2.2 with q | ⟨b, off, hx, _⟩
      · exact q
      · cases hx
    subst this
    exact Src.ofNil w Tryd.underlying22 cap
  | some y =>
    refine Src.ofSlice w Tryd.underlying22 y rs.length cap _ (flatS_length h.2.1) (fun j u hu => ?_) (flatS_one rs)
    rcases h.2.2 with rfl | ⟨b, off, hx, _, hr⟩
    · simp [flatS] at hu
    · cases hx
      rw [Addr.add_mid]
      exact hr j u hu
theorem infoS : (Tryd.prog.info? 43).map (fun i => (i.zero, i.size, i.bytes)) = some (some (.agg #[.int .i64 0, .int .u8 0, .int .u8 0, .int .u8 0, .int .u8 0, .int .u8 0, .int .u8 0, .int .u8 0, .int .u8 0, .int .u8 0, .int .u8 0, .int .u8 0, .int .u8 0, .int .u8 0, .int .u8 0, .int .u8 0, .int .u8 0]), 17, 24) := by kernel_rfl
theorem SigsAt.take {w : World} {a : Option Addr} {rs : List Sg} (h : SigsAt w a rs) (k : Nat) : SigsAt w a (rs.take k) := by
  refine ⟨by have := h.1; rw [List.length_take]; omega, fun r hr => h.2.1 r (List.mem_of_mem_take hr), ?_⟩
  rcases h.2.2 with h0 | ⟨b, off, rfl, h1, h2⟩
  · left; rw [h0]; simp
  · right
    refine ⟨b, off, rfl, h1, ?_⟩
    have e : flatS rs = flatS (rs.take k) ++ flatS (rs.drop k) := by rw [← flatS_append, List.take_append_drop]
    rw [e] at h2
    exact range_left h2
theorem sigs_drop {w : World} {b off : Nat} {rs : List Sg} (h : SigsAt w (some ⟨b, off, none⟩) rs) (k : Nat) (hk : k < rs.length) : SigsAt w (some ⟨b, off + k * 17, none⟩) (rs.drop k) := by
  refine ⟨by have := h.1; rw [List.length_drop]; omega, fun r hr => h.2.1 r (List.mem_of_mem_drop hr), ?_⟩
  rcases h.2.2 with h0 | ⟨b', off', hx, h1, h2⟩
  · left; rw [h0]; simp
  · right
    cases hx
    refine ⟨b, off + k * 17, rfl, h1, ?_⟩
    have e : flatS rs = flatS (rs.take k) ++ flatS (rs.drop k) := by rw [← flatS_append, List.take_append_drop]
    rw [e] at h2
    have h3 := range_right h2
    rwa [flatS_length (fun r hr => h.2.1 r (List.mem_of_mem_take hr)), List.length_take, Nat.min_eq_left (by omega)] at h3
set_option maxRecDepth 100000 in
theorem add1_any (X : Nat) (s r : Sg) (w : World) (hX : X < w.heap.size) (hs : w.rangeAt X 0 s.cells) :
    Calls Tryd.prog 26 #[.agg r.cells.toArray, .pointer (some ⟨X, 0, none⟩)] w fun e w' => e = .returned (.bool (eqN s r)) ∧ Below w.heap.size w w' := by
  have hB1 : Below w.heap.size w (w.alloc (.cells r.cells.toArray 43)) := (Below.refl _ _).alloc (Nat.le_refl _) _
  have hR1 : (w.alloc (.cells r.cells.toArray 43)).rangeAt w.heap.size 0 r.cells := by simpa using range_new w r.cells.toArray 43
  have d0 := Sg.first hR1
  have d1 := Sg.first (range_below hs hB1 hX)
  clear hR1 hs
  obtain ⟨q, hq⟩ : ∃ q, Hid (r.cells = q) := ⟨_, hide rfl⟩
  rw [hq.out] at hB1 d0 d1 ⊢
  clear hq
  go_enter Tryd.func26, Tryd.ntmps26
  go_upto_region 1 with fail
  go_name_world w1 hw1
  rw [hw1] at hB1 d0 d1
  clear hw1
  go_wp2
  go_ret
  exact ⟨rfl, hB1⟩
set_option maxRecDepth 100000 in
theorem add2_any (X : Nat) (s r : Sg) (w : World) (hX : X < w.heap.size) (hs : w.rangeAt X 0 s.cells) :
    Calls Tryd.prog 28 #[.agg r.cells.toArray, .pointer (some ⟨X, 0, none⟩)] w fun e w' => e = .returned (.bool (gtN s r)) ∧ Below w.heap.size w w' := by
  have hB1 : Below w.heap.size w (w.alloc (.cells r.cells.toArray 43)) := (Below.refl _ _).alloc (Nat.le_refl _) _
  have hR1 : (w.alloc (.cells r.cells.toArray 43)).rangeAt w.heap.size 0 r.cells := by simpa using range_new w r.cells.toArray 43
  have d0 := Sg.first hR1
  have d1 := Sg.first (range_below hs hB1 hX)
  clear hR1 hs
  obtain ⟨q, hq⟩ : ∃ q, Hid (r.cells = q) := ⟨_, hide rfl⟩
  rw [hq.out] at hB1 d0 d1 ⊢
  clear hq
  go_enter Tryd.func28, Tryd.ntmps28
  go_upto_region 1 with fail
  go_name_world w1 hw1
  rw [hw1] at hB1 d0 d1
  clear hw1
  go_wp2
  go_ret
  exact ⟨rfl, hB1⟩
set_option maxRecDepth 100000 in
set_option maxHeartbeats 2000000 in
theorem index_eq (X : Nat) (s : Sg) (a : Option Addr) (cap : Nat) (rs : List Sg) (w : World) (hX : X < w.heap.size) (hs : w.rangeAt X 0 s.cells) (h : SigsAt w a rs) :
    Calls Tryd.prog 42 #[.slice a rs.length cap, .func (.func 26) #[] #[.pointer (some ⟨X, 0, none⟩)]] w fun e w' => ∃ z : Int, e = .returned (.int .i64 z) ∧ ((z < 0 ∧ idx (eqN s) rs = rs.length) ∨ z = idx (eqN s) rs) ∧ Below w.heap.size w w' := by
  have hml := h.1
  unfold maxLen at hml
  have hall := h.2.1
  go_enter Tryd.func42, Tryd.ntmps42
  go_wp2
  go_loopw [8] (fun iv wr => ∃ (k : Nat), k ≤ rs.length ∧ iv = .int .i64 (k : Int) ∧ Hid (∀ j, (hj : j < rs.length) → j < k → eqN s rs[j] = false) ∧ Below w.heap.size w wr) (fun iv _ => rs.length - (intOf iv).toNat)
  case atStart => exact ⟨0, by omega, rfl, hide (fun j _ hj => absurd hj (by omega)), Below.refl _ _⟩
  case round =>
    obtain ⟨k, hk, rfl, HD, hB⟩ := hrel
    by_cases hlt : k < rs.length
    · have k1 : (k : Int) < rs.length := by omega
      obtain ⟨b, off, rfl, hb, hre⟩ := (h.below hB).elem k hlt
      obtain ⟨r, hr⟩ : ∃ r, Hid (rs[k] = r) := ⟨_, hide rfl⟩
      have hok : r.ok := by rw [← hr.out]; exact hall _ (List.getElem_mem hlt)
      rw [hr.out] at hre
      have hiq := hok.isz
      have ch := add1_any X s r wr (Nat.lt_of_lt_of_le hX hB.size) (range_below hs hB hX)
      obtain ⟨u, hu⟩ : ∃ u, Hid (r.cells = u) := ⟨_, hide rfl⟩
      rw [hu.out] at hre hiq ch
      clear hu hok
      go_upto_region 4 with fail
      try simp only [Act.put]
      refine wp_region_list ?_
      refine wpList_step fun K hK => ?_
      go_simp
      refine hK _ _ ?_
      clear hK K
      refine wpList_step fun K hK => ?_
      go_simp
      refine hK _ _ ?_
      clear hK K
      refine wpList_step fun K hK => ?_
      go_simp
      refine hK _ _ ?_
      clear hK K
      refine wpList_step fun K hK => ?_
      go_simp
      refine hK _ _ ?_
      clear hK K
      refine wpList_load_mid rfl 43 _ rfl _ _ rfl u _ hre Tryd.underlying43 rfl hiq ?_
      go_wp2_with fail
      refine ch.mono ?_
      rintro e w4 ⟨rfl, hw4⟩
      have hB4 := hB.trans (hw4.mono hB.size)
      clear ch hre hB
      cases hd : eqN s r
      · have HD' : Hid (∀ j, (hj : j < rs.length) → j < k + 1 → eqN s rs[j] = false) := hide (fun j hj hjk => by
          by_cases e : j = k
          · subst e; rw [hr.out]; exact hd
          · exact HD.out j hj (by omega))
        clear hd HD hr
        go_wp2
        go_roundw
        case rel => exact ⟨k + 1, by omega, by go_num, HD', hB4⟩
        case measure => simp [intOf]; omega
      · have HZ : Hid (idx (eqN s) rs = k) := hide (idx_at (eqN s) rs k hlt (by rw [hr.out]; exact hd) (fun j hj => HD.out j (by omega) hj))
        clear hd HD hr
        go_wp2
        go_ret
        exact ⟨_, rfl, .inr (by rw [HZ.out]), hB4⟩
    · have HZ : Hid (idx (eqN s) rs = rs.length) := hide (idx_none (eqN s) rs (fun j hj => HD.out j hj (by omega)))
      have k1 : ¬ (k : Int) < rs.length := by omega
      clear HD
      go_wp2
      go_ret
      exact ⟨_, rfl, .inl ⟨by decide, HZ.out⟩, hB⟩
set_option maxRecDepth 100000 in
set_option maxHeartbeats 2000000 in
theorem search_eq (X : Nat) (s : Sg) (a : Option Addr) (cap : Nat) (rs : List Sg) (w : World) (hX : X < w.heap.size) (hs : w.rangeAt X 0 s.cells) (h : SigsAt w a rs) :
    Calls Tryd.prog 25 #[.slice a rs.length cap, .func (.func 26) #[] #[.pointer (some ⟨X, 0, none⟩)]] w fun e w' => e = .returned (.int .i64 (idx (eqN s) rs : Nat)) ∧ Below w.heap.size w w' := by
  have ci := index_eq X s a cap rs w hX hs h
  obtain ⟨K, hK⟩ : ∃ K, Hid (idx (eqN s) rs = K) := ⟨_, hide rfl⟩
  rw [hK.out] at ci ⊢
  go_enter Tryd.func25, Tryd.ntmps25
  go_wp2_with fail
  refine ci.mono ?_
  rintro e w1 ⟨z, rfl, hz, hw1⟩
  clear ci
  rcases hz with ⟨h0, h1⟩ | h1
  · have H1 := hide h1
    clear h1
    go_wp2
    go_ret
    exact ⟨by rw [H1.out]; rfl, hw1⟩
  · subst h1
    have h0 : ¬ (K : Int) < 0 := by omega
    go_wp2
    go_ret
    exact ⟨rfl, hw1⟩
set_option maxRecDepth 100000 in
set_option maxHeartbeats 2000000 in
theorem index_gt (X : Nat) (s : Sg) (a : Option Addr) (cap : Nat) (rs : List Sg) (w : World) (hX : X < w.heap.size) (hs : w.rangeAt X 0 s.cells) (h : SigsAt w a rs) :
    Calls Tryd.prog 42 #[.slice a rs.length cap, .func (.func 28) #[] #[.pointer (some ⟨X, 0, none⟩)]] w fun e w' => ∃ z : Int, e = .returned (.int .i64 z) ∧ ((z < 0 ∧ idx (gtN s) rs = rs.length) ∨ z = idx (gtN s) rs) ∧ Below w.heap.size w w' := by
  have hml := h.1
  unfold maxLen at hml
  have hall := h.2.1
  go_enter Tryd.func42, Tryd.ntmps42
  go_wp2
  go_loopw [8] (fun iv wr => ∃ (k : Nat), k ≤ rs.length ∧ iv = .int .i64 (k : Int) ∧ Hid (∀ j, (hj : j < rs.length) → j < k → gtN s rs[j] = false) ∧ Below w.heap.size w wr) (fun iv _ => rs.length - (intOf iv).toNat)
  case atStart => exact ⟨0, by omega, rfl, hide (fun j _ hj => absurd hj (by omega)), Below.refl _ _⟩
  case round =>
    obtain ⟨k, hk, rfl, HD, hB⟩ := hrel
    by_cases hlt : k < rs.length
    · have k1 : (k : Int) < rs.length := by omega
      obtain ⟨b, off, rfl, hb, hre⟩ := (h.below hB).elem k hlt
      obtain ⟨r, hr⟩ : ∃ r, Hid (rs[k] = r) := ⟨_, hide rfl⟩
      have hok : r.ok := by rw [← hr.out]; exact hall _ (List.getElem_mem hlt)
      rw [hr.out] at hre
      have hiq := hok.isz
      have ch := add2_any X s r wr (Nat.lt_of_lt_of_le hX hB.size) (range_below hs hB hX)
      obtain ⟨u, hu⟩ : ∃ u, Hid (r.cells = u) := ⟨_, hide rfl⟩
      rw [hu.out] at hre hiq ch
      clear hu hok
      go_upto_region 4 with fail
      try simp only [Act.put]
      refine wp_region_list ?_
      refine wpList_step fun K hK => ?_
      go_simp
      refine hK _ _ ?_
      clear hK K
      refine wpList_step fun K hK => ?_
      go_simp
      refine hK _ _ ?_
      clear hK K
      refine wpList_step fun K hK => ?_
      go_simp
      refine hK _ _ ?_
      clear hK K
      refine wpList_step fun K hK => ?_
      go_simp
      refine hK _ _ ?_
      clear hK K
      refine wpList_load_mid rfl 43 _ rfl _ _ rfl u _ hre Tryd.underlying43 rfl hiq ?_
      go_wp2_with fail
      refine ch.mono ?_
      rintro e w4 ⟨rfl, hw4⟩
      have hB4 := hB.trans (hw4.mono hB.size)
      clear ch hre hB
      cases hd : gtN s r
      · have HD' : Hid (∀ j, (hj : j < rs.length) → j < k + 1 → gtN s rs[j] = false) := hide (fun j hj hjk => by
          by_cases e : j = k
          · subst e; rw [hr.out]; exact hd
          · exact HD.out j hj (by omega))
        clear hd HD hr
        go_wp2
        go_roundw
        case rel => exact ⟨k + 1, by omega, by go_num, HD', hB4⟩
        case measure => simp [intOf]; omega
      · have HZ : Hid (idx (gtN s) rs = k) := hide (idx_at (gtN s) rs k hlt (by rw [hr.out]; exact hd) (fun j hj => HD.out j (by omega) hj))
        clear hd HD hr
        go_wp2
        go_ret
        exact ⟨_, rfl, .inr (by rw [HZ.out]), hB4⟩
    · have HZ : Hid (idx (gtN s) rs = rs.length) := hide (idx_none (gtN s) rs (fun j hj => HD.out j hj (by omega)))
      have k1 : ¬ (k : Int) < rs.length := by omega
      clear HD
      go_wp2
      go_ret
      exact ⟨_, rfl, .inl ⟨by decide, HZ.out⟩, hB⟩
set_option maxRecDepth 100000 in
set_option maxHeartbeats 2000000 in
theorem search_gt (X : Nat) (s : Sg) (a : Option Addr) (cap : Nat) (rs : List Sg) (w : World) (hX : X < w.heap.size) (hs : w.rangeAt X 0 s.cells) (h : SigsAt w a rs) :
    Calls Tryd.prog 25 #[.slice a rs.length cap, .func (.func 28) #[] #[.pointer (some ⟨X, 0, none⟩)]] w fun e w' => e = .returned (.int .i64 (idx (gtN s) rs : Nat)) ∧ Below w.heap.size w w' := by
  have ci := index_gt X s a cap rs w hX hs h
  obtain ⟨K, hK⟩ : ∃ K, Hid (idx (gtN s) rs = K) := ⟨_, hide rfl⟩
  rw [hK.out] at ci ⊢
  go_enter Tryd.func25, Tryd.ntmps25
  go_wp2_with fail
  refine ci.mono ?_
  rintro e w1 ⟨z, rfl, hz, hw1⟩
  clear ci
  rcases hz with ⟨h0, h1⟩ | h1
  · have H1 := hide h1
    clear h1
    go_wp2
    go_ret
    exact ⟨by rw [H1.out]; rfl, hw1⟩
  · subst h1
    have h0 : ¬ (K : Int) < 0 := by omega
    go_wp2
    go_ret
    exact ⟨rfl, hw1⟩
set_option maxRecDepth 100000 in
set_option maxHeartbeats 2000000 in
theorem clone_any (a : Option Addr) (cap : Nat) (rs : List Sg) (w : World) (h : SigsAt w a rs) (hn : rs.length ≤ 100000) :
    Calls Tryd.prog 27 #[.slice a rs.length cap] w fun e w' => ∃ v, e = .returned v ∧ SOwn w' w.heap.size v rs ∧ Below w.heap.size w w' := by
  obtain ⟨i1, hi1, hiz, his, hib⟩ := info_parts infoS
  have hall := h.2.1
  cases a with
  | none =>
    have hnil : rs = [] := by
      rcases h.2.2 with q | ⟨b, off, hx, _⟩
      · exact q
      · cases hx
    subst hnil
    have hn := fun w => Lib.run_eql_slice_nil (P := Tryd.prog) w 22 43 none 0 cap 0 0 Tryd.underlying22
    go_enter Tryd.func27, Tryd.ntmps27
    go_wp2
    go_ret
    exact ⟨_, rfl, ⟨World.ownsRow_nil _ _ _ _, by simp⟩, Below.refl _ _⟩
  | some x =>
    have hb1 : Below w.heap.size w (w.alloc (.cells #[] 43)) := (Below.refl _ _).alloc (Nat.le_refl _) _
    have hown1 : (w.alloc (.cells #[] 43)).ownsRow w.heap.size 43 17 (.slice (some ⟨w.heap.size, 0, none⟩) 0 0) 0 [] :=
      ⟨rfl, .inr ⟨w.heap.size, 0, #[], rfl, Nat.le_refl _, heap_alloc_new w _, Nat.le_refl _, by unfold maxLen; omega, rfl, rfl⟩⟩
    have hsrc := (h.below hb1).src cap
    have hn := fun w => Lib.run_eql_slice_nil (P := Tryd.prog) w 22 43 (some x) rs.length cap 0 0 Tryd.underlying22
    go_enter Tryd.func27, Tryd.ntmps27
    go_wp2_with (at_builtin; refine wpList_append_own_src _ rfl _ _ 22 22 rfl w.heap.size 43 i1 (.agg #[.int .i64 0, .int .u8 0, .int .u8 0, .int .u8 0, .int .u8 0, .int .u8 0, .int .u8 0, .int .u8 0, .int .u8 0, .int .u8 0, .int .u8 0, .int .u8 0, .int .u8 0, .int .u8 0, .int .u8 0, .int .u8 0, .int .u8 0]) 17 24 Tryd.underlying22 hi1 hiz his hib rfl _ 0 [] rfl hown1 (.slice (some x) rs.length cap) rs.length (flatS rs) rfl hsrc ?c1 ?c2 ?c3 ?_)
    case c1 => unfold maxLen; omega
    case c2 => omega
    case c3 => exact hb1.size
    intro v2 w2 hown2 hgrow2
    have hb2 : Below w.heap.size w w2 := hb1.grown hgrow2 hb1.size (fun k hk => (hown1.lt k hk).1)
    go_wp2
    go_ret
    exact ⟨_, rfl, ⟨by simpa using hown2, hall⟩, hb2⟩
end Go.Proofs.YtbfhpgneaklgoaaDoor
