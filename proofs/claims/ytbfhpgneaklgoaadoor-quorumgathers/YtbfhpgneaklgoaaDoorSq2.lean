/- quorum.signers, by places -/
import Derived.Test.YtbfhpgneaklgoaaDoorSg5
namespace Go.Proofs.YtbfhpgneaklgoaaDoor
open Go.RowKit Go.Shelf
attribute [local go_sem] Oper.semAt_some
theorem fin_succ (n k : Nat) (hk : k < n) : (List.finRange n).take (k + 1) = (List.finRange n).take k ++ [⟨k, hk⟩] := by
  rw [List.take_succ_eq_append_getElem (by rw [List.length_finRange]; exact hk)]
  simp
set_option maxRecDepth 100000 in
set_option maxHeartbeats 2000000 in
theorem signersF_in (F : Fence) (n : Nat) (h7 : F.fn 49) (hro : F.round = none) (hn : 1 ≤ n) (l Bs n₀ : Nat) (a : Option Addr) (cap : Nat) (rs : List Sg) (hlr : rs.length ≤ 100000) (J Jx : List (Fin rs.length) → World → Prop)
    (W : World) (hJ : AbidesFrom W.heap.size J)
    (hY : ∀ pre x W, J pre W → pre.length < rs.length → YieldAt F (n - 1) Tryd.prog l #[.int .i64 (x.val : Int), .int .i64 (rs[x.val].n)] W fun e W' =>
      (e = .returned (.bool true) ∧ J (pre ++ [x]) W' ∧ KeepsB n₀ Bs W W') ∨ (e = .returned (.bool false) ∧ Jx (pre ++ [x]) W'))
    (hBs : W.cell? ⟨Bs, 0, none⟩ = some (.slice a rs.length cap)) (hc : SigsAt W a rs) (hlo : rs = [] ∨ ∀ x, a = some x → x.block < n₀) (hn₀ : n₀ ≤ W.heap.size) (h0 : J [] W) :
    CallsIn F n Tryd.prog 49 #[.func (.yield l) #[] #[], .pointer (some ⟨Bs, 0, none⟩)] W fun e W' => (∃ v, e = .returned v) ∧
      ((∃ ys, ys = List.finRange rs.length ∧ J ys W') ∨ (∃ pre, pre <+: List.finRange rs.length ∧ Jx pre W')) := by
  have hall := hc.2.1
  refine callsIn_of_wp Tryd.func49 rfl h7 ?_ hro
  simp only [Tryd.ntmps49, List.size_toArray, List.length_cons, List.length_nil, Nat.reduceAdd, Nat.reduceSub, Array.replicate_succ, Array.replicate_zero, List.push_toArray, List.append_toArray, List.nil_append, List.cons_append]
  gi_wp2
  gi_loopw [7] (fun i wr => ∃ k : Nat, k ≤ rs.length ∧ i = .int .i64 k ∧ J ((List.finRange rs.length).take k) wr ∧ KeepsB n₀ Bs W wr)
    (fun i _ => rs.length - (intOf i).toNat)
  case atStart => exact ⟨0, Nat.zero_le _, rfl, h0, KeepsB.refl _ _ _⟩
  case round =>
    obtain ⟨k, hk, rfl, hJs, hnx⟩ := hrel
    by_cases hlt : k < rs.length
    · have k1 : (k : Int) < rs.length := by omega
      obtain ⟨b, off, rfl, hb, hre⟩ := (hc.belowN hnx.1 (hlo.resolve_left (fun h => by subst h; simp at hlt))).elem k hlt
      have HU := hide (fin_succ rs.length k hlt)
      obtain ⟨r, hr⟩ : ∃ r, Hid (rs[k] = r) := ⟨_, hide rfl⟩
      have hok : r.ok := by rw [← hr.out]; exact hall _ (List.getElem_mem hlt)
      rw [hr.out] at hre
      have hiq := hok.isz
      have hiA := hok.iszA
      have h1c := all_oneCell_toArray r.one
      have hN : (wr.alloc (.cells #[.int .i64 0, .int .u8 0, .int .u8 0, .int .u8 0, .int .u8 0, .int .u8 0, .int .u8 0, .int .u8 0, .int .u8 0, .int .u8 0, .int .u8 0, .int .u8 0, .int .u8 0, .int .u8 0, .int .u8 0, .int .u8 0, .int .u8 0] 43)).there wr.heap.size 0 r.cells.toArray.size := by
        have := there_new wr #[.int .i64 0, .int .u8 0, .int .u8 0, .int .u8 0, .int .u8 0, .int .u8 0, .int .u8 0, .int .u8 0, .int .u8 0, .int .u8 0, .int .u8 0, .int .u8 0, .int .u8 0, .int .u8 0, .int .u8 0, .int .u8 0, .int .u8 0] 43
        have e : r.cells.toArray.size = 17 := by rw [List.size_toArray, hok.length]
        rw [e]; exact this
      have FS := fresh_store wr #[.int .i64 0, .int .u8 0, .int .u8 0, .int .u8 0, .int .u8 0, .int .u8 0, .int .u8 0, .int .u8 0, .int .u8 0, .int .u8 0, .int .u8 0, .int .u8 0, .int .u8 0, .int .u8 0, .int .u8 0, .int .u8 0, .int .u8 0] 43 r.cells (by rw [hok.length]; rfl)
      have hfr := fun (w0 : World) (b0 : Nat) (hh : w0.rangeAt b0 0 r.cells) => Sg.first hh
      obtain ⟨u, hu⟩ : ∃ u, Hid (r.cells = u) := ⟨_, hide rfl⟩
      rw [hu.out] at hre hiq hiA hN h1c FS
      simp only [hu.out] at hfr
      obtain ⟨c, hce⟩ : ∃ c, Hid (r.n = c) := ⟨_, hide rfl⟩
      have HC : Hid (rs[k].n = c) := hide (by rw [hr.out]; exact hce.out)
      simp only [hce.out] at hfr
      clear hr hu hok hce
      have hlen : ((List.finRange rs.length).take k).length < rs.length := by rw [List.length_take, List.length_finRange]; omega
      gi_upto_region 2 with fail
      try simp only [Act.put]
      refine wpIn_region_list ?_
      refine wpListIn_plain rfl fun K hK => ?_
      go_simp
      refine hK _ _ ?_
      clear hK K
      refine wpListIn_plain rfl fun K hK => ?_
      go_simp
      try simp only [if_pos k1, show (0 : Int) ≤ (k : Int) from Int.natCast_nonneg k, and_self, ↓reduceIte]
      try go_bits
      try go_simp
      refine hK _ _ ?_
      clear hK K
      refine wpListIn_load_mid rfl 43 _ rfl _ _ rfl u _ hre Tryd.underlying43 rfl hiq ?_
      refine wpListIn_plain rfl fun K hK => ?_
      go_simp
      refine hK _ _ ?_
      clear hK K
      refine wpListIn_plain rfl fun K hK => ?_
      go_simp
      refine hK _ _ ?_
      clear hK K
      refine wpListIn_store_mid rfl 43 _ _ rfl _ _ u.toArray rfl rfl hN hiA h1c ?_
      try simp only [Act.put]
      have hgb : wr.grownBy _ none := gb_sets_past (Nat.le_refl _) u 0 _ (World.grownBy_alloc wr (.cells #[.int .i64 0, .int .u8 0, .int .u8 0, .int .u8 0, .int .u8 0, .int .u8 0, .int .u8 0, .int .u8 0, .int .u8 0, .int .u8 0, .int .u8 0, .int .u8 0, .int .u8 0, .int .u8 0, .int .u8 0, .int .u8 0, .int .u8 0] 43) none)
      obtain ⟨w3, hw3⟩ : ∃ w3, Hid ((wr.alloc (.cells #[.int .i64 0, .int .u8 0, .int .u8 0, .int .u8 0, .int .u8 0, .int .u8 0, .int .u8 0, .int .u8 0, .int .u8 0, .int .u8 0, .int .u8 0, .int .u8 0, .int .u8 0, .int .u8 0, .int .u8 0, .int .u8 0, .int .u8 0] 43)).setCells wr.heap.size 0 u = w3) := ⟨_, hide rfl⟩
      rw [hw3.out] at FS hgb
      simp only [hw3.out]
      have hJ3 := hJ _ _ _ none hJs hgb (fun r e => by cases e)
      have hK3 : KeepsB n₀ Bs W w3 := hnx.tr ⟨(FS.2.1).mono (by have := hnx.1.size; omega), fun hbb => hgb.block Bs hbb (by simp)⟩
      have hcf := hfr _ _ FS.1
      clear FS hfr hgb hw3 hre hN hiA hiq h1c hJs hnx
      have hY3 := hY _ ⟨k, hlt⟩ w3 hJ3 hlen
      simp only [HC.out] at hY3
      obtain ⟨fn, tmps, assign, body, hy, hR⟩ := hY3
      gi_wp2
      refine hR.mono ?_
      rintro e W3 (⟨rfl, hJ4, hk3⟩ | ⟨rfl, hJx3⟩)
      · gi_wp2
        go_roundw
        case rel => exact ⟨k + 1, by omega, by simp, by rw [HU.out]; exact hJ4, hK3.tr hk3⟩
        case measure => simp [intOf]; omega
      · gi_wp2
        refine bodyPost_ret (results_none rfl _ _ _) rfl ?_
        exact ⟨⟨_, rfl⟩, .inr ⟨_, by rw [← HU.out]; exact List.take_prefix _ _, hJx3⟩⟩
    · obtain rfl : k = rs.length := by omega
      gi_wp2
      go_end0
      exact ⟨⟨_, rfl⟩, .inl ⟨_, List.take_of_length_le (by rw [List.length_finRange]; exact Nat.le_refl _), hJs⟩⟩
theorem signersF_stops (F : Fence) (n : Nat) (h7 : F.fn 49) (hro : F.round = none) (hn : 1 ≤ n) (Bs n₀ : Nat) (a : Option Addr) (cap : Nat) (rs : List Sg) (hlr : rs.length ≤ 100000) (w : World) (hBs : Bs < w.heap.size) (hn₀ : n₀ ≤ w.heap.size)
    (hc : w.cell? ⟨Bs, 0, none⟩ = some (.slice a rs.length cap)) (hI : SigsAt w a rs) (hlo : rs = [] ∨ ∀ x, a = some x → x.block < n₀) :
    SeqStopsK F n Tryd.prog 49 #[.pointer (some ⟨Bs, 0, none⟩)] (fun x : Fin rs.length => #[Value.int .i64 (x.val : Int), Value.int .i64 (rs[x.val].n)]) (KeepsB n₀ Bs) (fun ys => ys = List.finRange rs.length) (fun pre => pre <+: List.finRange rs.length) rs.length w := fun l J Jx W hW hJ _ hY h0 =>
  signersF_in F n h7 hro hn l Bs n₀ a cap rs hlr J Jx W hJ hY ((hW.cell (p := ⟨Bs, 0, none⟩) hBs).trans hc) (hI.below hW) hlo (Nat.le_trans hn₀ hW.size) h0
end Go.Proofs.YtbfhpgneaklgoaaDoor
