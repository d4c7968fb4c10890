/- quorum.signers, quorum.Nodes -/
import Derived.Test.YtbfhpgneaklgoaaDoorSg4
import Derived.Test.YtbfhpgneaklgoaaDoorIter
import Derived.RangeFuncNested
import Derived.RangeFuncFrom
import Derived.Sort.CutIn
namespace Go.Proofs.YtbfhpgneaklgoaaDoor
open Go.RowKit Go.Shelf
attribute [local go_sem] Oper.semAt_some
section
variable {F : Fence} {n : Nat} {P : Program} {ops : Array Oper} {rest : List Oper} {op : Oper} {a : Act} {w : World} {Q : Exit → Act → World → Prop}
theorem wpListIn_load_mid (hgd : op.guard = none) (ty : TypeId) (x : Operand) (ho : op.op = .load ty x)
    (b o : Nat) (hx : a.eval x = .pointer (some ⟨b, o, none⟩)) (cs : List Value) (d : TypeDesc) (hc : w.rangeAt b o cs)
    (hu : P.underlying ty = some d) (hd : d.isRow = true) (hi : (P.info? ty).map (·.size) = some cs.length)
    (h : wpListIn F n P ops Q rest (a.put op.dst (.agg cs.toArray)) w) : wpListIn F n P ops Q (op :: rest) a w := by
  refine wpListIn_plain hgd fun K hK => ?_
  unfold Oper.wpIn
  refine ⟨?_, ?_⟩
  · simp [Oper.about, ho]
  · rw [Oper.semAt_plain F _ _ (by rw [ho]; intro c hc'; cases hc')]
    simp only [execOp, ho, hx, Instr.loadAt, Instr.sureAddr, Sem.run_bind, Sem.run_pure, Result.andThen_ok, run_loadVar_mid w b o ty cs d hc hu hd hi]
    exact hK _ _ h
theorem wpListIn_store_mid (hgd : op.guard = none) (ty : TypeId) (x y : Operand) (ho : op.op = .store ty x y)
    (b o : Nat) (cells : Array Value) (hx : a.eval x = .pointer (some ⟨b, o, none⟩)) (hy : a.eval y = .agg cells)
    (ht : w.there b o cells.size) (hi : (P.info? ty).map (·.size) = some cells.size) (h1 : cells.all (·.oneCell') = true)
    (h : wpListIn F n P ops Q rest (a.put op.dst undef) (w.setCells b o cells.toList)) : wpListIn F n P ops Q (op :: rest) a w := by
  refine wpListIn_plain hgd fun K hK => ?_
  unfold Oper.wpIn
  refine ⟨?_, ?_⟩
  · simp [Oper.about, ho]
  · rw [Oper.semAt_plain F _ _ (by rw [ho]; intro c hc'; cases hc')]
    simp only [execOp, ho, hx, hy, Instr.storeAt, Instr.sureAddr, Sem.run_bind, Sem.run_pure, Result.andThen_ok, run_storeVar_mid w b o ty cells ht hi h1]
    exact hK _ _ h
end
def KeepsB (n₀ Bs : Nat) (A B : World) : Prop := Below n₀ A B ∧ (Bs < A.heap.size → B.heap[Bs]? = A.heap[Bs]?)
theorem KeepsB.refl (n₀ Bs : Nat) (A : World) : KeepsB n₀ Bs A A := ⟨Below.refl _ _, fun _ => rfl⟩
theorem KeepsB.tr {n₀ Bs : Nat} {A B C : World} (h : KeepsB n₀ Bs A B) (k : KeepsB n₀ Bs B C) : KeepsB n₀ Bs A C :=
  ⟨h.1.trans k.1, fun hb => (k.2 (Nat.lt_of_lt_of_le hb h.1.size)).trans (h.2 hb)⟩
theorem KeepsB.cell {n₀ Bs : Nat} {A B : World} (h : KeepsB n₀ Bs A B) {v : Value} (e : A.cell? ⟨Bs, 0, none⟩ = some v) : B.cell? ⟨Bs, 0, none⟩ = some v := by
  have hb := World.block_lt_of_cell? A _ e
  simp only [World.cell?, h.2 hb] at e ⊢
  exact e
theorem keepsB_b {n₀ Bs : Nat} {w : World} (hn : n₀ ≤ w.heap.size) (hb : Bs < w.heap.size) (W : World) (l : Nat) (o o' : Obj) (hl : w.heap.size ≤ l) (h : W.heap[l]? = some o) (h1 : o.isCells = false) (h2 : o.isWalk = false) : KeepsB n₀ Bs W (W.putObj l o') :=
  ⟨belowK_b hn W l o o' hl h h1 h2, fun _ => World.putObj_heap_other (by omega)⟩
/-- the places and the nodes of signs -/
def prs (rs : List Sg) : List (Int × Int) := (List.range rs.length).map (fun i : Nat => ((i : Int), (rs[i]?.getD default).n))
theorem prs_length (rs : List Sg) : (prs rs).length = rs.length := by simp [prs]
theorem prs_succ (rs : List Sg) (k : Nat) (hk : k < rs.length) : (prs rs).take (k + 1) = (prs rs).take k ++ [((k : Int), rs[k].n)] := by
  rw [List.take_succ_eq_append_getElem (by rw [prs_length]; exact hk)]
  simp [prs, List.getElem?_eq_getElem hk]
set_option maxRecDepth 100000 in
set_option maxHeartbeats 2000000 in
theorem signers1_in (F : Fence) (n : Nat) (h7 : F.fn 49) (hro : F.round = none) (hn : 1 ≤ n) (l Bs n₀ : Nat) (a : Option Addr) (cap : Nat) (rs : List Sg) (hlr : rs.length ≤ 100000) (J Jx : List (Int × Int) → World → Prop)
    (W : World) (hJ : AbidesFrom W.heap.size J)
    (hY : ∀ pre x W, J pre W → pre.length < rs.length → YieldAt F (n - 1) Tryd.prog l #[.int .i64 x.1, .int .i64 x.2] W fun e W' =>
      (e = .returned (.bool true) ∧ J (pre ++ [x]) W' ∧ KeepsB n₀ Bs W W') ∨ (e = .returned (.bool false) ∧ Jx (pre ++ [x]) W'))
    (hBs : W.cell? ⟨Bs, 0, none⟩ = some (.slice a rs.length cap)) (hc : SigsAt W a rs) (hlo : rs = [] ∨ ∀ x, a = some x → x.block < n₀) (hn₀ : n₀ ≤ W.heap.size) (h0 : J [] W) :
    CallsIn F n Tryd.prog 49 #[.func (.yield l) #[] #[], .pointer (some ⟨Bs, 0, none⟩)] W fun e W' => (∃ v, e = .returned v) ∧
      ((∃ ys, ys = prs rs ∧ J ys W') ∨ (∃ pre, pre <+: prs rs ∧ Jx pre W')) := by
  have hall := hc.2.1
  refine callsIn_of_wp Tryd.func49 rfl h7 ?_ hro
  simp only [Tryd.ntmps49, List.size_toArray, List.length_cons, List.length_nil, Nat.reduceAdd, Nat.reduceSub, Array.replicate_succ, Array.replicate_zero, List.push_toArray, List.append_toArray, List.nil_append, List.cons_append]
  gi_wp2
  gi_loopw [7] (fun i wr => ∃ k : Nat, k ≤ rs.length ∧ i = .int .i64 k ∧ J ((prs rs).take k) wr ∧ KeepsB n₀ Bs W wr)
    (fun i _ => rs.length - (intOf i).toNat)
  case atStart => exact ⟨0, Nat.zero_le _, rfl, h0, KeepsB.refl _ _ _⟩
  case round =>
    obtain ⟨k, hk, rfl, hJs, hnx⟩ := hrel
    by_cases hlt : k < rs.length
    · have k1 : (k : Int) < rs.length := by omega
      obtain ⟨b, off, rfl, hb, hre⟩ := (hc.belowN hnx.1 (hlo.resolve_left (fun h => by subst h; simp at hlt))).elem k hlt
      have HU := hide (prs_succ rs k hlt)
      obtain ⟨r, hr⟩ : ∃ r, Hid (rs[k] = r) := ⟨_, hide rfl⟩
      have hok : r.ok := by rw [← hr.out]; exact hall _ (List.getElem_mem hlt)
      rw [hr.out] at hre HU
      have hiq := hok.isz
      have hiA := hok.iszA
      have h1c := all_oneCell_toArray r.one
      have hN : (wr.alloc (.cells #[.int .i64 0, .int .u8 0, .int .u8 0, .int .u8 0, .int .u8 0, .int .u8 0, .int .u8 0, .int .u8 0, .int .u8 0, .int .u8 0, .int .u8 0, .int .u8 0, .int .u8 0, .int .u8 0, .int .u8 0, .int .u8 0, .int .u8 0] 43)).there wr.heap.size 0 r.cells.toArray.size := by
        have := there_new wr #[.int .i64 0, .int .u8 0, .int .u8 0, .int .u8 0, .int .u8 0, .int .u8 0, .int .u8 0, .int .u8 0, .int .u8 0, .int .u8 0, .int .u8 0, .int .u8 0, .int .u8 0, .int .u8 0, .int .u8 0, .int .u8 0, .int .u8 0] 43
        have e : r.cells.toArray.size = 17 := by rw [List.size_toArray, hok.length]
        rw [e]; exact this
      have FS := fresh_store wr #[.int .i64 0, .int .u8 0, .int .u8 0, .int .u8 0, .int .u8 0, .int .u8 0, .int .u8 0, .int .u8 0, .int .u8 0, .int .u8 0, .int .u8 0, .int .u8 0, .int .u8 0, .int .u8 0, .int .u8 0, .int .u8 0, .int .u8 0] 43 r.cells (by rw [hok.length]; rfl)
      have hfr := fun (w0 : World) (b0 : Nat) (hh : w0.rangeAt b0 0 r.cells) => Sg.first hh
      obtain ⟨u, hu⟩ : ∃ u, Hid (r.cells = u) := ⟨_, hide rfl⟩
      rw [hu.out] at hre hiq hiA hN h1c FS
      simp only [hu.out] at hfr
      obtain ⟨c, hce⟩ : ∃ c, Hid (r.n = c) := ⟨_, hide rfl⟩
      rw [hce.out] at HU
      simp only [hce.out] at hfr
      clear hr hu hok hce
      have hlen : ((prs rs).take k).length < rs.length := by rw [List.length_take, prs_length]; omega
      gi_upto_region 2 with fail
      try simp only [Act.put]
      refine wpIn_region_list ?_
      refine wpListIn_plain rfl fun K hK => ?_
      go_simp
      refine hK _ _ ?_
      clear hK K
      refine wpListIn_plain rfl fun K hK => ?_
      go_simp
      try simp only [if_pos k1, show (0 : Int) ≤ (k : Int) from Int.natCast_nonneg k, and_self, ↓reduceIte]
      try go_bits
      try go_simp
      refine hK _ _ ?_
      clear hK K
      refine wpListIn_load_mid rfl 43 _ rfl _ _ rfl u _ hre Tryd.underlying43 rfl hiq ?_
      refine wpListIn_plain rfl fun K hK => ?_
      go_simp
      refine hK _ _ ?_
      clear hK K
      refine wpListIn_plain rfl fun K hK => ?_
      go_simp
      refine hK _ _ ?_
      clear hK K
      refine wpListIn_store_mid rfl 43 _ _ rfl _ _ u.toArray rfl rfl hN hiA h1c ?_
      try simp only [Act.put]
      have hgb : wr.grownBy _ none := gb_sets_past (Nat.le_refl _) u 0 _ (World.grownBy_alloc wr (.cells #[.int .i64 0, .int .u8 0, .int .u8 0, .int .u8 0, .int .u8 0, .int .u8 0, .int .u8 0, .int .u8 0, .int .u8 0, .int .u8 0, .int .u8 0, .int .u8 0, .int .u8 0, .int .u8 0, .int .u8 0, .int .u8 0, .int .u8 0] 43) none)
      obtain ⟨w3, hw3⟩ : ∃ w3, Hid ((wr.alloc (.cells #[.int .i64 0, .int .u8 0, .int .u8 0, .int .u8 0, .int .u8 0, .int .u8 0, .int .u8 0, .int .u8 0, .int .u8 0, .int .u8 0, .int .u8 0, .int .u8 0, .int .u8 0, .int .u8 0, .int .u8 0, .int .u8 0, .int .u8 0] 43)).setCells wr.heap.size 0 u = w3) := ⟨_, hide rfl⟩
      rw [hw3.out] at FS hgb
      simp only [hw3.out]
      have hJ3 := hJ _ _ _ none hJs hgb (fun r e => by cases e)
      have hK3 : KeepsB n₀ Bs W w3 := hnx.tr ⟨(FS.2.1).mono (by have := hnx.1.size; omega), fun hbb => hgb.block Bs hbb (by simp)⟩
      have hcf := hfr _ _ FS.1
      clear FS hfr hgb hw3 hre hN hiA hiq h1c hJs hnx
      obtain ⟨fn, tmps, assign, body, hy, hR⟩ := hY _ ((k : Int), c) w3 hJ3 hlen
      gi_wp2
      refine hR.mono ?_
      rintro e W3 (⟨rfl, hJ4, hk3⟩ | ⟨rfl, hJx3⟩)
      · gi_wp2
        go_roundw
        case rel => exact ⟨k + 1, by omega, by simp, by rw [HU.out]; exact hJ4, hK3.tr hk3⟩
        case measure => simp [intOf]; omega
      · gi_wp2
        refine bodyPost_ret (results_none rfl _ _ _) rfl ?_
        exact ⟨⟨_, rfl⟩, .inr ⟨_, by rw [← HU.out]; exact List.take_prefix _ _, hJx3⟩⟩
    · obtain rfl : k = rs.length := by omega
      gi_wp2
      go_end0
      exact ⟨⟨_, rfl⟩, .inl ⟨_, by rw [← prs_length, List.take_length], hJs⟩⟩
set_option maxHeartbeats 1000000 in
theorem signers_in (F : Fence) (n : Nat) (h5 : F.fn 37) (hro : F.round = none) (a : Option Addr) (len cap : Nat) (w : World) :
    CallsIn F n Tryd.prog 37 #[.slice a len cap] w fun e w' => e = .returned (.func (.func 49) #[] #[.pointer (some ⟨w.heap.size, 0, none⟩)]) ∧ w' = w.alloc (.cells #[.slice a len cap] 22) := by
  refine callsIn_of_wp Tryd.func37 rfl h5 ?_ hro
  simp only [Tryd.ntmps37, List.size_toArray, List.length_cons, List.length_nil, Nat.reduceAdd, Nat.reduceSub, Array.replicate_succ, Array.replicate_zero, List.push_toArray, List.append_toArray, List.nil_append, List.cons_append]
  gi_wp2
  go_ret
  exact ⟨rfl, rfl⟩
theorem signers_stops (F : Fence) (n : Nat) (h7 : F.fn 49) (hro : F.round = none) (hn : 1 ≤ n) (Bs n₀ : Nat) (a : Option Addr) (cap : Nat) (rs : List Sg) (hlr : rs.length ≤ 100000) (w : World) (hBs : Bs < w.heap.size) (hn₀ : n₀ ≤ w.heap.size)
    (hc : w.cell? ⟨Bs, 0, none⟩ = some (.slice a rs.length cap)) (hI : SigsAt w a rs) (hlo : rs = [] ∨ ∀ x, a = some x → x.block < n₀) :
    SeqStopsK F n Tryd.prog 49 #[.pointer (some ⟨Bs, 0, none⟩)] (fun x : Int × Int => #[Value.int .i64 x.1, Value.int .i64 x.2]) (KeepsB n₀ Bs) (fun ys => ys = prs rs) (fun pre => pre <+: prs rs) rs.length w := fun l J Jx W hW hJ _ hY h0 =>
  signers1_in F n h7 hro hn l Bs n₀ a cap rs hlr J Jx W hJ hY ((hW.cell (p := ⟨Bs, 0, none⟩) hBs).trans hc) (hI.below hW) hlo (Nat.le_trans hn₀ hW.size) h0
end Go.Proofs.YtbfhpgneaklgoaaDoor
