/- the walk of PoolGone -/
import Derived.Test.YtbfcbjjhdadicaaDoorP18
import Derived.Test.YtbfcbjjhdadicaaDoorP17p
namespace Go.Proofs.YtbfcbjjhdadicaaDoor
open Go.RowKit
open Sha Tal
theorem exec_bsI {o : Oper} {a : Act} {w : World} {x : Operand} {z : Int} (ho : o.op = .buildSlice 36 1 #[(0, x)]) (hx : a.eval x = .int .i64 z) : (execOp a.eval o).run Tryd.prog w = .ok (.value (.slice (some ⟨w.heap.size, 0, none⟩) 1 1)) (w.alloc (.cells #[.int .i64 z] 3)) := by
  unfold execOp
  simp [ho, hx, Instr.buildSlice, run_underlying Tryd.underlying36]
  kernel_rfl
theorem infoSL : (Tryd.prog.info? 43).map (fun i => (i.zero, i.size, i.bytes)) = some (some (.slice none 0 0), 1, 24) := by kernel_rfl
theorem append_sl {w : World} {B : Nat} {v : Value} {n : Nat} {xs : List Value} (x : Value) (hx1 : x.oneCell' = true) (hBw : B ≤ w.heap.size) (hown : w.ownsRow B 43 1 v n xs) (hn : n ≤ 100000) (ty : TypeId) :
    ∃ v' w', (Builtin.append_ #[57, 57] ty #[v, .slice (some ⟨w.heap.size, 0, none⟩) 1 1]).run Tryd.prog (w.alloc (.cells #[x] 43)) = .ok v' w' ∧ w'.ownsRow B 43 1 v' (n + 1) (xs ++ [x]) ∧
      w.grownBy w' v.ownBlock ∧ (∀ g, v'.ownBlock = some g → v.ownBlock = some g ∨ w.heap.size ≤ g) := by
  obtain ⟨i, hi, hzz⟩ := Option.map_eq_some_iff.1 infoSL
  simp only [Prod.mk.injEq] at hzz
  obtain ⟨hz, hs, hb⟩ := hzz
  have hB : Below w.heap.size w (w.alloc (.cells #[x] 43)) := (Below.refl _ _).alloc (Nat.le_refl _) _
  have hown' : (w.alloc (.cells #[x] 43)).ownsRow B 43 1 v n xs := owns_at hown (fun g hg => hB.block g (owns_lt hown hg))
  have hr := range_new w #[x] 43
  have hsrc : Src Tryd.prog 1 57 (.slice (some ⟨w.heap.size, 0, none⟩) 1 1) 1 [x] (w.alloc (.cells #[x] 43)) :=
    Src.ofSlice _ Tryd.underlying57 ⟨w.heap.size, 0, none⟩ 1 1 _ rfl (fun j y hy => by have := hr j y (by simpa using hy); rw [Addr.add_mid]; exact this) (fun y hy => by rw [List.mem_singleton.1 hy]; exact hx1)
  obtain ⟨v', w', hrun, ho, hg, hap⟩ := run_append_own_src2 (P := Tryd.prog) (w.alloc (.cells #[x] 43)) B 57 57 ty 43 i _ 1 24 Tryd.underlying57 hi hz hs hb (by rfl) v n xs hown' _ 1 _ hsrc (by unfold maxLen; omega) (by omega) (Nat.le_trans hBw hB.size)
  refine ⟨v', w', hrun, ho, ?_, fun g hg' => ?_⟩
  · exact ⟨hg.os, hg.tape, hg.output, Nat.le_trans hB.size hg.size, fun k hk hne => (hg.block k (Nat.lt_of_lt_of_le hk hB.size) hne).trans (hB.block k hk)⟩
  · rcases hap g hg' with h | h
    · exact .inl h
    · right; rw [h]; exact hB.size
/-- rows of rows of one's own -/
structure LeftAt (w : World) (B : Nat) (lv : Value) (fs : List (List Rq)) (vs : List Value) : Prop where
  own : w.ownsRow B 43 1 lv vs.length vs
  len : vs.length = fs.length
  inn : ∀ (j : Nat) (v : Value) (f : List Rq), vs[j]? = some v → fs[j]? = some f → w.ownsRow B 35 19 v f.length (flatR f)
  ap : ∀ v ∈ vs, ∀ g, v.ownBlock = some g → lv.ownBlock ≠ some g
theorem LeftAt.nil (w : World) (B : Nat) : LeftAt w B (.slice none 0 0) [] [] := ⟨World.ownsRow_nil _ _ _ _, rfl, fun j v f h => by simp at h, fun v h => by cases h⟩
theorem LeftAt.at {w w' : World} {B : Nat} {lv : Value} {fs : List (List Rq)} {vs : List Value} (h : LeftAt w B lv fs vs) (hb : ∀ b, B ≤ b → b < w.heap.size → w'.heap[b]? = w.heap[b]?) : LeftAt w' B lv fs vs :=
  ⟨owns_at h.own (fun g hg => hb g (owns_base h.own g hg) (owns_lt h.own hg)), h.len, fun j v f hv hf => owns_at (h.inn j v f hv hf) (fun g hg => hb g (owns_base (h.inn j v f hv hf) g hg) (owns_lt (h.inn j v f hv hf) hg)), h.ap⟩
theorem LeftAt.below {w w' : World} {B : Nat} {lv : Value} {fs : List (List Rq)} {vs : List Value} (h : LeftAt w B lv fs vs) (hb : Below w.heap.size w w') : LeftAt w' B lv fs vs := h.at (fun b _ hl => hb.block b hl)
theorem LeftAt.push {w w' : World} {B : Nat} {lv lv' x : Value} {fs : List (List Rq)} {vs : List Value} {f : List Rq} (h : LeftAt w B lv fs vs) (hx : w.ownsRow B 35 19 x f.length (flatR f)) (hxa : ∀ g, x.ownBlock = some g → lv.ownBlock ≠ some g)
    (hown : w'.ownsRow B 43 1 lv' (vs.length + 1) (vs ++ [x])) (hgr : w.grownBy w' lv.ownBlock) (hap : ∀ g, lv'.ownBlock = some g → lv.ownBlock = some g ∨ w.heap.size ≤ g) : LeftAt w' B lv' (fs ++ [f]) (vs ++ [x]) := by
  have keep : ∀ (v : Value) (f' : List Rq), w.ownsRow B 35 19 v f'.length (flatR f') → (∀ g, v.ownBlock = some g → lv.ownBlock ≠ some g) → w'.ownsRow B 35 19 v f'.length (flatR f') := fun v f' hv ha => owns_at hv (fun g hg => hgr.block g (owns_lt hv hg) (fun e => ha g hg e.symm))
  refine ⟨by simpa using hown, by simp [h.len], fun j v f' hv hf => ?_, fun v hv g hg hl => ?_⟩
  · by_cases hj : j < vs.length
    · rw [List.getElem?_append_left hj] at hv
      rw [List.getElem?_append_left (by rw [← h.len]; exact hj)] at hf
      exact keep v f' (h.inn j v f' hv hf) (h.ap v (List.mem_of_getElem? hv))
    · rw [List.getElem?_append_right (by omega)] at hv
      rw [List.getElem?_append_right (by rw [← h.len]; omega), ← h.len] at hf
      have hj0 : j - vs.length = 0 := by
        have := (List.getElem?_eq_some_iff.1 hv).1
        simp at this
        omega
      rw [hj0] at hv hf
      simp at hv hf
      subst hv hf
      exact keep _ _ hx hxa
  · have old : ∀ y : Value, (∃ f' : List Rq, w.ownsRow B 35 19 y f'.length (flatR f')) → (∀ g, y.ownBlock = some g → lv.ownBlock ≠ some g) → y.ownBlock = some g → False := fun y ⟨f', hy⟩ ha hyg => by
      rcases hap g hl with q | q
      · exact ha g hyg q
      · have := owns_lt hy hyg; omega
    rcases List.mem_append.1 hv with q | q
    · obtain ⟨j, hj⟩ := mem_get q
      have hjl : j < fs.length := by rw [← h.len]; exact (List.getElem?_eq_some_iff.1 hj).1
      exact old v ⟨_, h.inn j v _ hj (List.getElem?_eq_getElem hjl)⟩ (h.ap v q) hg
    · rw [List.mem_singleton.1 q] at hg
      exact old x ⟨f, hx⟩ hxa hg
theorem map_take {ls : List (List Rq)} {b : Nat} {l : List Rq} (hl : ls[b]? = some l) (p : Rq → Bool) : (ls.take (b + 1)).map (List.filter p) = (ls.take b).map (List.filter p) ++ [l.filter p] := by
  have hb := (List.getElem?_eq_some_iff.1 hl).1
  have he : ls[b] = l := (List.getElem?_eq_some_iff.1 hl).2
  rw [List.take_succ_eq_append_getElem hb, he]
  simp
theorem flat_snoc (ls : List (List Rq)) (l : List Rq) : (flatP (ls ++ [l])).length = (flatP ls).length + l.length := by simp [flatP]
theorem filter_twice (ls : List (List Rq)) (p : Rq → Bool) : (ls.map (List.filter p)).map (List.filter p) = ls.map (List.filter p) := by
  rw [List.map_map]
  apply List.map_congr_left
  intro l _
  simp [List.filter_filter]
set_option maxRecDepth 100000 in
set_option maxHeartbeats 8000000 in
theorem gone_walk (z : Int) (a : Option Addr) (cap : Nat) (rs : List Rq) (ca : Option Addr) (cc : Nat) (ws : List (Int × Int)) (w : World) (hrow : RowOf Rq.cells w a rs) (hok : ∀ r ∈ rs, r.ok) (hcap : rs.length ≤ cap) (hcm : cap ≤ maxLen) (hws : RowOf winL w ca ws) (hwok : ∀ q ∈ ws, winOk q) (hG : Glob w) :
    Calls Tryd.prog 7 #[.int .i64 z, .slice a rs.length cap, .slice ca ws.length cc] w fun e w' => e = .returned (.bool true) ∧ Below w.heap.size w w' := by
  have hrl : rs.length ≤ maxLen := Nat.le_trans hcap hcm
  have hreq : ReqsAt w a rs := ⟨hrl, hok, by
    rcases hrow with q | q
    · exact .inl q
    · exact .inr q⟩
  go_enter Tryd.func7, Tryd.ntmps7
  go_upto_region 2 with fail
  obtain ⟨k, hk1, hk64, hke⟩ := umod64 z
  rw [hke]
  clear hke
  have cN := new_yes k 16 w (by omega) hk64 (by omega) (by omega)
  have h0 := pnew_in w k 16 (by omega) hk64 (by omega)
  obtain ⟨wa, hwa⟩ : ∃ wa, newW w k 16 = wa := ⟨_, rfl⟩
  rw [hwa] at cN h0
  obtain ⟨P0, hP0⟩ : ∃ P0, newPl w k = P0 := ⟨_, rfl⟩
  rw [hP0] at cN h0
  clear hwa hP0
  have cN : Calls Tryd.prog 8 #[.int .i64 (k : Int), .int .i64 16] w fun e w' => e = .returned (.tuple #[ptr P0, .int .i64 0]) ∧ w' = wa := cN
  obtain ⟨qp, hq⟩ : ∃ q, Hid (ptr P0 = .pointer (some q)) := ⟨_, hide rfl⟩
  rw [hq.out] at cN
  go_wp2_with fail
  refine cN.mono ?_
  rintro e w' ⟨rfl, hx⟩
  obtain rfl := hx.symm
  clear cN hx
  have cL := lives_any wa (hG.below h0.b)
  by_cases hb1 : 100 < rs.length
  · have hb1I : (100 : Int) < (rs.length : Int) := by omega
    go_wp2_with fail
    refine cL.mono ?_
    rintro e w9 ⟨rfl, hb9⟩
    clear cL
    go_wp2_with fail
    go_ret
    exact ⟨rfl, h0.b.trans (hb9.mono h0.b.size)⟩
  have hb1I : ¬ (100 : Int) < (rs.length : Int) := by omega
  by_cases hb2 : 100 < ws.length
  · have hb2I : (100 : Int) < (ws.length : Int) := by omega
    go_wp2_with fail
    refine cL.mono ?_
    rintro e w9 ⟨rfl, hb9⟩
    clear cL
    go_wp2_with fail
    go_ret
    exact ⟨rfl, h0.b.trans (hb9.mono h0.b.size)⟩
  have hb2I : ¬ (100 : Int) < (ws.length : Int) := by omega
  clear cL
  obtain ⟨wb0, hwb⟩ : ∃ wb0, wa.alloc (.cells #[.bool false, .slice a rs.length cap] 54) = wb0 := ⟨_, rfl⟩
  have hbb : Below wa.heap.size wa wb0 := by rw [← hwb]; exact (Below.refl _ _).alloc (Nat.le_refl _) _
  have h0b := h0.below hbb
  have cLi := Light_row (some ⟨wa.heap.size, 0, none⟩) 1 [⟨false, a, cap, rs⟩] wb0 (.inr ⟨_, _, rfl, by rw [← hwb]; simp, by rw [← hwb]; simpa [Bx.cells] using range_new wa #[.bool false, .slice a rs.length cap] 54⟩) (fun x hx => by rw [List.mem_singleton.1 hx]; exact ⟨hcap, hcm, hreq.below h0b.b⟩) (by unfold maxLen; simp)
  go_wp2_with fail
  refine cLi.mono ?_
  rintro e w2 (⟨rfl, hb2a⟩ | ⟨rfl, hb2a, -⟩)
  · have h2 := h0b.below hb2a
    have cL := lives_any w2 (hG.below h2.b)
    clear cLi
    go_wp2_with fail
    refine cL.mono ?_
    rintro e w9 ⟨rfl, hb9⟩
    clear cL
    go_wp2_with fail
    go_ret
    exact ⟨rfl, h2.b.trans (hb9.mono h2.b.size)⟩
  have h2 := h0b.below hb2a
  clear cLi h0 h0b hwb
  go_wp2_with fail
  go_loopw [64] (fun iv wr => ∃ (j : Nat) (Q : Pl) (ls : List (List Rq)), j ≤ rs.length ∧ iv = .int .i64 (j : Int) ∧ Hid (ptr Q = .pointer (some qp)) ∧ PoolIn w wr Q 16 ls ∧ ls.length = k) (fun iv _ => rs.length - (intOf iv).toNat)
  case atStart => exact ⟨0, P0, List.replicate k [], by omega, rfl, hq, h2, by simp⟩
  case round =>
    clear h2 hq
    obtain ⟨j, Q, ls, hj, rfl, hqQ, h3, hLen⟩ := hrel
    by_cases hlt : j < rs.length
    · have j1 : (j : Int) < (rs.length : Int) := by omega
      obtain ⟨rb, roff, rfl, hrb, hre⟩ := (hreq.below h3.b).elem j hlt
      have hok : rs[j].ok := hok _ (List.getElem_mem hlt)
      generalize rs[j] = r at *
      have hiq := hok.isz
      have hiA := hok.iszA
      have hN := hok.blank wr
      have h1c := all_oneCell_toArray r.one
      have hul := hok.length
      have hu1 := r.one
      have cpo := pairOf_any r
      have F := fresh_store wr #[.int .i64 0, .int .i64 0, .string ⟨#[]⟩, .int .u8 0, .int .u8 0, .int .u8 0, .int .u8 0, .int .u8 0, .int .u8 0, .int .u8 0, .int .u8 0, .int .u8 0, .int .u8 0, .int .u8 0, .int .u8 0, .int .u8 0, .int .u8 0, .int .u8 0, .int .u8 0] 35 r.cells (by rw [hok.length]; rfl)
      obtain ⟨u, hu⟩ : ∃ u, Hid (r.cells = u) := ⟨_, hide rfl⟩
      rw [hu.out] at hre hiq hiA hN h1c F hul hu1
      simp only [hu.out] at cpo
      have cA := fun W (h : PoolIn w W Q 16 ls) => padd_in h r hok hG
      simp only [hu.out, hqQ.out] at cA
      have hLen2 : (addL 16 ls r).length = k := by rw [← hLen]; unfold addL; split; simp; rfl
      generalize addL 16 ls r = ls2 at *
      generalize addE 16 ls r = E at *
      go_upto_region 7 with fail
      try simp only [Act.put]
      refine wp_region_list ?_
      refine wpList_step fun K hK => ?_
      go_simp
      refine hK _ _ ?_
      clear hK K
      refine wpList_load_mid rfl 35 _ rfl _ _ rfl u _ hre Tryd.underlying35 rfl hiq ?_
      go_upto_region 8 with (refine wpList_store_mid (op := ⟨none, .store 35 (.tmp 11) (.tmp 67), _, _, _, none⟩) rfl 35 _ _ rfl _ _ u.toArray rfl rfl hN hiA h1c ?_)
      go_name_world w3 hw3
      rw [show (wr.alloc (.cells #[.int .i64 0, .int .i64 0, .string ⟨#[]⟩, .int .u8 0, .int .u8 0, .int .u8 0, .int .u8 0, .int .u8 0, .int .u8 0, .int .u8 0, .int .u8 0, .int .u8 0, .int .u8 0, .int .u8 0, .int .u8 0, .int .u8 0, .int .u8 0, .int .u8 0, .int .u8 0] 35)).setCells wr.heap.size 0 u = w3 from hw3] at F
      clear hw3 hN
      obtain ⟨hR3, hF3, hz3, -⟩ := F
      have h4 := h3.below hF3
      have cA := cA w3 h4
      go_upto_region 8 with fail
      refine wp_region_list ?_
      refine wpList_step fun K hK => ?_
      go_simp
      refine hK _ _ ?_
      clear hK K
      refine wpList_load_mid rfl 35 _ rfl _ _ rfl u _ hR3 Tryd.underlying35 rfl hiq ?_
      go_wp2_with fail
      refine cA.mono ?_
      rintro e w5 ⟨rfl, Q3, hp3, h5, -, -⟩
      clear cA
      go_wp2_with fail
      go_roundw
      case rel => exact ⟨j + 1, Q3, ls2, by omega, by go_num, hide hp3, h5, hLen2⟩
      case measure => simp [intOf]; omega
    · have j1 : ¬ (j : Int) < (rs.length : Int) := by omega
      clear hrow hok hreq
      obtain ⟨w2, hw2⟩ : ∃ w2, w2 = wr := ⟨_, rfl⟩
      subst hw2
      have hsm := h3.at_.small
      have hrkA := h3.at_.R.rok
      have hbkA := h3.at_.R.bk
      have hfewA := h3.at_.R.few
      go_wp2_with fail
      go_loopw [12, 13, 73] (fun lv gv iv wr => ∃ (b G : Nat) (vs : List Value), b ≤ k ∧ iv = .int .i64 (b : Int) ∧ gv = .int .i64 (G : Int) ∧ Hid (G + (flatP ((ls.take b).map (List.filter (leftR ws)))).length = (flatP (ls.take b)).length) ∧ G ≤ 1024 ∧ LeftAt wr w2.heap.size lv ((ls.take b).map (List.filter (leftR ws))) vs ∧ Below w2.heap.size w2 wr) (fun _ _ iv _ => k - (intOf iv).toNat)
      case atStart => exact ⟨0, 0, [], by omega, rfl, rfl, hide (by simp [flatP]), by omega, by simpa using LeftAt.nil w2 w2.heap.size, Below.refl _ _⟩
      case round =>
        obtain ⟨b, G, vs, hb, rfl, rfl, HG, hGs, hLA, hBb⟩ := hrel
        by_cases hltb : b < k
        · have kb : (b : Int) < (k : Int) := by omega
          have hbl : b < ls.length := by omega
          obtain ⟨l, hl⟩ : ∃ l, ls[b]? = some l := ⟨ls[b], List.getElem?_eq_getElem hbl⟩
          have hinl : inL ls (b : Int) = l := by
            unfold inL
            rw [if_pos ⟨by omega, by omega⟩]
            simp [List.getD, hl]
          obtain ⟨wb1, hwb1⟩ : ∃ wb1, wb1 = wr := ⟨_, rfl⟩
          subst hwb1
          have cIn := pin_any Q 16 ls (b : Int) wb1 (h3.below hBb).at_
          rw [hqQ.out, hinl] at cIn
          have hrk := hrkA l (List.mem_of_getElem? hl)
          have hbk := hbkA b l hl
          have hlm : l.length ≤ 16 := hfewA l (List.mem_of_getElem? hl)
          obtain ⟨lva, lvc, rfl⟩ := owns_slice hLA.own
          clear hinl
          go_wp2_with fail
          refine cIn.mono ?_
          rintro e w3 ⟨v, rfl, ho, hb3⟩
          obtain ⟨la, lcap, rfl, -, -, hRA, -⟩ := own_reqs0 ho hrk (by unfold maxLen; omega)
          clear cIn ho
          go_wp2_with fail
          go_loopw [13, 15, 80] (fun gv xv iv wq => ∃ (j G2 : Nat) (rest : List Rq), j ≤ l.length ∧ iv = .int .i64 (j : Int) ∧ gv = .int .i64 (G2 : Int) ∧ Hid (rest = (l.take j).filter (leftR ws)) ∧ G2 + rest.length = G + j ∧ wq.ownsRow w3.heap.size 35 19 xv rest.length (flatR rest) ∧ Below w3.heap.size w3 wq) (fun _ _ iv _ => l.length - (intOf iv).toNat)
          case atStart => exact ⟨0, G, [], by omega, rfl, rfl, hide (by simp), by simp, World.ownsRow_nil _ _ _ _, Below.refl _ _⟩
          case round =>
            obtain ⟨j, G2, rest, hj, rfl, rfl, HR, hG2, hxr, hBq⟩ := hrel
            by_cases hlt2 : j < l.length
            · have hltI2 : (j : Int) < (l.length : Int) := by omega
              obtain ⟨rb, roff, rfl, hrb, hre⟩ := (hRA.below hBq).elem j hlt2
              have HTK := hide (List.take_succ_eq_append_getElem hlt2)
              have hok : l[j].ok := hrk _ (List.getElem_mem hlt2)
              have hnn := hbk _ (List.getElem_mem hlt2)
              generalize l[j] = r at *
              have hnh := hok.nh
              obtain ⟨C, hC⟩ := Int.eq_ofNat_of_zero_le hnn.2.1
              have hiq := hok.isz
              have hiA := hok.iszA
              have hN := hok.blank wr
              have h1c := all_oneCell_toArray r.one
              have hul := hok.length
              have hu1 := r.one
              have cpo := pairOf_any r
              have F := fresh_store wr #[.int .i64 0, .int .i64 0, .string ⟨#[]⟩, .int .u8 0, .int .u8 0, .int .u8 0, .int .u8 0, .int .u8 0, .int .u8 0, .int .u8 0, .int .u8 0, .int .u8 0, .int .u8 0, .int .u8 0, .int .u8 0, .int .u8 0, .int .u8 0, .int .u8 0, .int .u8 0] 35 r.cells (by rw [hok.length]; rfl)
              obtain ⟨u, hu⟩ : ∃ u, Hid (r.cells = u) := ⟨_, hide rfl⟩
              rw [hu.out] at hre hiq hiA hN h1c F hul hu1
              simp only [hu.out] at cpo
              obtain ⟨xa, xc, rfl⟩ := owns_slice hxr
              go_upto_region 18 with fail
              try simp only [Act.put]
              refine wp_region_list ?_
              refine wpList_step fun K hK => ?_
              go_simp
              refine hK _ _ ?_
              clear hK K
              refine wpList_load_mid rfl 35 _ rfl _ _ rfl u _ hre Tryd.underlying35 rfl hiq ?_
              go_upto_region 19 with (refine wpList_store_mid (op := ⟨none, .store 35 (.tmp 17) (.tmp 83), _, _, _, none⟩) rfl 35 _ _ rfl _ _ u.toArray rfl rfl hN hiA h1c ?_)
              go_name_world w4 hw4
              rw [show (wr.alloc (.cells #[.int .i64 0, .int .i64 0, .string ⟨#[]⟩, .int .u8 0, .int .u8 0, .int .u8 0, .int .u8 0, .int .u8 0, .int .u8 0, .int .u8 0, .int .u8 0, .int .u8 0, .int .u8 0, .int .u8 0, .int .u8 0, .int .u8 0, .int .u8 0, .int .u8 0, .int .u8 0] 35)).setCells wr.heap.size 0 u = w4 from hw4] at F
              clear hw4 hN
              obtain ⟨hR3, hF3, hz3, -⟩ := F
              have hx3 := ownsB hxr hF3
              have hBw4 : Below w3.heap.size w3 w4 := hBq.trans (hF3.mono hBq.size)
              have hBww : Below w.heap.size w w4 := h3.b.trans ((hBb.trans ((hb3.trans (hBw4.mono hb3.size)).mono hBb.size)).mono h3.b.size)
              have hlr : rest.length ≤ 16 := by rw [HR.out]; exact Nat.le_trans (List.length_filter_le _ _) (by rw [List.length_take]; omega)
              clear hxr hre hBq
              go_upto_region 19 with fail
              obtain ⟨w8, hw8⟩ : ∃ w8, w4.drew = w8 := ⟨_, rfl⟩
              have hB8 : Below w4.heap.size w4 w8 := by rw [← hw8]; exact (Below.refl _ _).drew
              have hX8 : wr.heap.size < w8.heap.size := by have := hB8.size; omega
              have hR8 := range_below hR3 hB8 (by omega)
              rw [← hu.out] at hR8
              have x0 : ∀ w', Below w8.heap.size w8 w' → w'.cell? ⟨wr.heap.size, 0, none⟩ = some (.int .i64 (C : Int)) := fun w' hw' => by rw [← hC]; exact (reqL_0 (range_below hR8 hw' hX8)).1
              have x1 : ∀ w', Below w8.heap.size w8 w' → w'.cell? ⟨wr.heap.size, 1, none⟩ = some (.int .i64 r.n) := fun w' hw' => (reqL_0 (range_below hR8 hw' hX8)).2.1
              rw [hu.out] at hR8
              have HV : Hid (leftR ws r = match ws[C]? with | none => true | some q => !doneQ q r.n) := hide (by unfold leftR; rw [hC]; rfl)
              by_cases hcw : C < ws.length
              · obtain ⟨wb, woff, rfl, hwb, hrew⟩ := (hws.below (hBww.trans (hB8.mono hBww.size))).elem (k := 2) (fun _ _ => rfl) C hcw
                have hqk := hwok _ (List.getElem_mem hcw)
                rw [List.getElem?_eq_getElem hcw] at HV
                obtain ⟨q, hqq⟩ : ∃ q, Hid (ws[C] = q) := ⟨_, hide rfl⟩
                rw [hqq.out] at hrew hqk HV
                have HV2 : Hid (leftR ws r = !doneQ q r.n) := hide HV.out
                have hCI : (C : Int) < (ws.length : Int) := by omega
                have kw : ∀ w', Below w8.heap.size w8 w' → w'.rangeAt wb (woff + C * 2) (winL q) := fun w' hw' => range_below hrew hw' hwb
                have hiw : (Tryd.prog.info? 69).map (·.size) = some (winL q).length := by kernel_rfl
                have cd := done_q q hqk r.n hnh
                clear HV hrew hqq
                cases hD : doneQ q r.n
                · have HP : Hid (leftR ws r = true) := hide (by rw [HV2.out, hD]; rfl)
                  rw [hD] at cd
                  clear HV2
                  refine hs_begin (S := (Below w8.heap.size w8)) 15 rfl (by kernel_rfl) ?_
                  rw [hw8]
                  clear hw8
                  have hS : (Below w8.heap.size w8) w8 := Below.refl _ _
                  refine hs_take (i := 0) (d := some 84) (v := ?_) rfl (by kernel_rfl) (by kernel_rfl) (by kernel_rfl) (by rfl) ?_ hS rfl ?_
                  rotate_left
                  · intro w' hw
                    go_simp
                    try with_reducible rfl
                  simp only [Act.put, List.setIfInBounds_toArray, List.set_cons_zero, List.set_cons_succ]
                  refine hs_take (i := 1) (d := some 85) (v := ?_) rfl (by kernel_rfl) (by kernel_rfl) (by kernel_rfl) (by rfl) ?_ hS rfl ?_
                  rotate_left
                  · intro w' hw
                    have hc := x0 w' hw
                    go_simp
                    try with_reducible rfl
                  simp only [Act.put, List.setIfInBounds_toArray, List.set_cons_zero, List.set_cons_succ]
                  refine hs_take (i := 2) (d := some 86) (v := ?_) rfl (by kernel_rfl) (by kernel_rfl) (by kernel_rfl) (by rfl) ?_ hS rfl ?_
                  rotate_left
                  · intro w' hw
                    go_simp
                    try with_reducible rfl
                  simp only [Act.put, List.setIfInBounds_toArray, List.set_cons_zero, List.set_cons_succ]
                  refine hs_take (i := 3) (d := some 87) (v := ?_) rfl (by kernel_rfl) (by kernel_rfl) (by kernel_rfl) (by rfl) ?_ hS rfl ?_
                  rotate_left
                  · intro w' hw
                    go_simp
                    try with_reducible rfl
                  simp only [Act.put, List.setIfInBounds_toArray, List.set_cons_zero, List.set_cons_succ]
                  refine hs_take (i := 4) (d := some 88) (v := .bool true) rfl (by kernel_rfl) (by kernel_rfl) (by kernel_rfl) (by rfl) (fun w' hw => by go_simp) hS rfl ?_
                  simp only [Act.put, List.setIfInBounds_toArray, List.set_cons_zero, List.set_cons_succ]
                  refine hs_take (i := 5) (d := some 89) (v := ?_) rfl (by kernel_rfl) (by kernel_rfl) (by kernel_rfl) (by rfl) ?_ hS rfl ?_
                  rotate_left
                  · intro w' hw
                    go_simp
                    try with_reducible rfl
                  simp only [Act.put, List.setIfInBounds_toArray, List.set_cons_zero, List.set_cons_succ]
                  refine hs_take (i := 6) (d := some 90) (v := ?_) rfl (by kernel_rfl) (by kernel_rfl) (by kernel_rfl) (by rfl) ?_ hS rfl ?_
                  rotate_left
                  · intro w' hw
                    go_simp
                    try with_reducible rfl
                  simp only [Act.put, List.setIfInBounds_toArray, List.set_cons_zero, List.set_cons_succ]
                  refine hs_take (i := 7) (d := some 91) (v := ?_) rfl (by kernel_rfl) (by kernel_rfl) (by kernel_rfl) (by rfl) ?_ hS rfl ?_
                  rotate_left
                  · intro w' hw
                    go_simp
                    try with_reducible rfl
                  simp only [Act.put, List.setIfInBounds_toArray, List.set_cons_zero, List.set_cons_succ]
                  refine hs_take (i := 8) (d := some 92) (v := ?_) rfl (by kernel_rfl) (by kernel_rfl) (by kernel_rfl) (by rfl) ?_ hS rfl ?_
                  rotate_left
                  · intro w' hw
                    have hc := x0 w' hw
                    go_simp
                    try with_reducible rfl
                  simp only [Act.put, List.setIfInBounds_toArray, List.set_cons_zero, List.set_cons_succ]
                  refine hs_take (i := 9) (d := some 93) (v := ?_) rfl (by kernel_rfl) (by kernel_rfl) (by kernel_rfl) (by rfl) ?_ hS rfl ?_
                  rotate_left
                  · intro w' hw
                    go_simp
                    try with_reducible rfl
                  simp only [Act.put, List.setIfInBounds_toArray, List.set_cons_zero, List.set_cons_succ]
                  refine hs_take (i := 11) (d := some 95) (v := ?_) rfl (by kernel_rfl) (by kernel_rfl) (by kernel_rfl) (by rfl) ?_ hS rfl ?_
                  rotate_left
                  · intro w' hw
                    go_simp
                    try with_reducible rfl
                  simp only [Act.put, List.setIfInBounds_toArray, List.set_cons_zero, List.set_cons_succ]
                  refine hs_take (i := 12) (d := some 96) (v := ?_) rfl (by kernel_rfl) (by kernel_rfl) (by kernel_rfl) (by rfl) ?_ hS rfl ?_
                  rotate_left
                  · intro w' hw
                    have hc := x1 w' hw
                    go_simp
                    try with_reducible rfl
                  simp only [Act.put, List.setIfInBounds_toArray, List.set_cons_zero, List.set_cons_succ]
                  refine hs_take (i := 10) (d := some 94) (v := .agg (winL q).toArray) rfl (by kernel_rfl) (by kernel_rfl) (by kernel_rfl) (by rfl) (fun w' hw => exec_load rfl rfl (run_loadVar_mid (P := Tryd.prog) w' wb (woff + C * 2) 69 (winL q) _ (kw w' hw) Tryd.underlying69 rfl hiw)) hS rfl ?_
                  simp only [Act.put, List.setIfInBounds_toArray, List.set_cons_zero, List.set_cons_succ]
                  refine hs_call (i := 13) (d := some 97) rfl (by kernel_rfl) (by rfl) (by go_simp; first | done | exact ⟨rfl, rfl⟩ | with_reducible rfl) rfl ?_
                  refine (cd w8).mono ?_
                  rintro e' wA ⟨rfl, hbA⟩
                  have hS : (Below w8.heap.size w8) wA := hbA
                  refine ⟨_, rfl, hS, ?_⟩
                  simp only [Act.put, List.setIfInBounds_toArray, List.set_cons_zero, List.set_cons_succ]
                  refine hs_take (i := 14) (d := some 98) (v := ?_) rfl (by kernel_rfl) (by kernel_rfl) (by kernel_rfl) (by rfl) ?_ hS rfl ?_
                  rotate_left
                  · intro w' hw
                    go_simp
                    try with_reducible rfl
                  simp only [Act.put, List.setIfInBounds_toArray, List.set_cons_zero, List.set_cons_succ]
                  refine hs_done (by kernel_rfl) ?_
                  have hwE : Below w4.heap.size w4 wA := hB8.trans (hS.mono hB8.size)
                  have hR9 : wA.rangeAt wr.heap.size 0 u := range_below hR8 hS hX8
                  have HR2 : Hid (rest ++ [r] = (l.take (j + 1)).filter (leftR ws)) := hide (by rw [HTK.out, List.filter_append, ← HR.out]; simp [HP.out])
                  have hxE := ownsB hx3 hwE
                  have hBA3 : Below w3.heap.size w3 wA := hBw4.trans (hwE.mono hBw4.size)
                  obtain ⟨v', wF, hrun, hoA, hgr, hap⟩ := append_reqB hBA3.size hxE hul hu1 (by omega) 43
                  go_upto_region 21 with fail
                  refine wp_region_list ?_
                  refine wpList_step fun K hK => ?_
                  go_simp
                  refine hK _ _ ?_
                  clear hK K
                  refine wpList_load_mid rfl 35 _ rfl _ _ rfl u _ hR9 Tryd.underlying35 rfl hiq ?_
                  refine wpList_run1 rfl (exec_bs1 rfl rfl (bs_req hul wA)) ?_
                  refine wpList_run1 rfl (exec_append1 rfl rfl rfl hrun) ?_
                  obtain ⟨va3, vcap3, rfl⟩ := owns_slice hoA
                  go_wp2_with fail
                  go_roundw
                  case rel =>
                    refine ⟨j + 1, G2, rest ++ [r], by omega, by go_num, rfl, HR2, by simp; omega, ?_, hBA3.grown hgr hBA3.size (owns_base hxE)⟩
                    rw [flatR_append]
                    have e1 : flatR [r] = u := by rw [← hu.out]; simp [flatR]
                    rw [e1]
                    simpa using hoA
                  case measure => simp [intOf]; omega
                · have HP : Hid (leftR ws r = false) := hide (by rw [HV2.out, hD]; rfl)
                  rw [hD] at cd
                  clear HV2
                  have HR2 : Hid (rest = (l.take (j + 1)).filter (leftR ws)) := hide (by rw [HTK.out, List.filter_append, ← HR.out]; simp [HP.out])
                  refine hs_begin (S := (Below w8.heap.size w8)) 15 rfl (by kernel_rfl) ?_
                  rw [hw8]
                  clear hw8
                  have hS : (Below w8.heap.size w8) w8 := Below.refl _ _
                  refine hs_take (i := 0) (d := some 84) (v := ?_) rfl (by kernel_rfl) (by kernel_rfl) (by kernel_rfl) (by rfl) ?_ hS rfl ?_
                  rotate_left
                  · intro w' hw
                    go_simp
                    try with_reducible rfl
                  simp only [Act.put, List.setIfInBounds_toArray, List.set_cons_zero, List.set_cons_succ]
                  refine hs_take (i := 1) (d := some 85) (v := ?_) rfl (by kernel_rfl) (by kernel_rfl) (by kernel_rfl) (by rfl) ?_ hS rfl ?_
                  rotate_left
                  · intro w' hw
                    have hc := x0 w' hw
                    go_simp
                    try with_reducible rfl
                  simp only [Act.put, List.setIfInBounds_toArray, List.set_cons_zero, List.set_cons_succ]
                  refine hs_take (i := 2) (d := some 86) (v := ?_) rfl (by kernel_rfl) (by kernel_rfl) (by kernel_rfl) (by rfl) ?_ hS rfl ?_
                  rotate_left
                  · intro w' hw
                    go_simp
                    try with_reducible rfl
                  simp only [Act.put, List.setIfInBounds_toArray, List.set_cons_zero, List.set_cons_succ]
                  refine hs_take (i := 3) (d := some 87) (v := ?_) rfl (by kernel_rfl) (by kernel_rfl) (by kernel_rfl) (by rfl) ?_ hS rfl ?_
                  rotate_left
                  · intro w' hw
                    go_simp
                    try with_reducible rfl
                  simp only [Act.put, List.setIfInBounds_toArray, List.set_cons_zero, List.set_cons_succ]
                  refine hs_take (i := 4) (d := some 88) (v := .bool true) rfl (by kernel_rfl) (by kernel_rfl) (by kernel_rfl) (by rfl) (fun w' hw => by go_simp) hS rfl ?_
                  simp only [Act.put, List.setIfInBounds_toArray, List.set_cons_zero, List.set_cons_succ]
                  refine hs_take (i := 5) (d := some 89) (v := ?_) rfl (by kernel_rfl) (by kernel_rfl) (by kernel_rfl) (by rfl) ?_ hS rfl ?_
                  rotate_left
                  · intro w' hw
                    go_simp
                    try with_reducible rfl
                  simp only [Act.put, List.setIfInBounds_toArray, List.set_cons_zero, List.set_cons_succ]
                  refine hs_take (i := 6) (d := some 90) (v := ?_) rfl (by kernel_rfl) (by kernel_rfl) (by kernel_rfl) (by rfl) ?_ hS rfl ?_
                  rotate_left
                  · intro w' hw
                    go_simp
                    try with_reducible rfl
                  simp only [Act.put, List.setIfInBounds_toArray, List.set_cons_zero, List.set_cons_succ]
                  refine hs_take (i := 7) (d := some 91) (v := ?_) rfl (by kernel_rfl) (by kernel_rfl) (by kernel_rfl) (by rfl) ?_ hS rfl ?_
                  rotate_left
                  · intro w' hw
                    go_simp
                    try with_reducible rfl
                  simp only [Act.put, List.setIfInBounds_toArray, List.set_cons_zero, List.set_cons_succ]
                  refine hs_take (i := 8) (d := some 92) (v := ?_) rfl (by kernel_rfl) (by kernel_rfl) (by kernel_rfl) (by rfl) ?_ hS rfl ?_
                  rotate_left
                  · intro w' hw
                    have hc := x0 w' hw
                    go_simp
                    try with_reducible rfl
                  simp only [Act.put, List.setIfInBounds_toArray, List.set_cons_zero, List.set_cons_succ]
                  refine hs_take (i := 9) (d := some 93) (v := ?_) rfl (by kernel_rfl) (by kernel_rfl) (by kernel_rfl) (by rfl) ?_ hS rfl ?_
                  rotate_left
                  · intro w' hw
                    go_simp
                    try with_reducible rfl
                  simp only [Act.put, List.setIfInBounds_toArray, List.set_cons_zero, List.set_cons_succ]
                  refine hs_take (i := 11) (d := some 95) (v := ?_) rfl (by kernel_rfl) (by kernel_rfl) (by kernel_rfl) (by rfl) ?_ hS rfl ?_
                  rotate_left
                  · intro w' hw
                    go_simp
                    try with_reducible rfl
                  simp only [Act.put, List.setIfInBounds_toArray, List.set_cons_zero, List.set_cons_succ]
                  refine hs_take (i := 12) (d := some 96) (v := ?_) rfl (by kernel_rfl) (by kernel_rfl) (by kernel_rfl) (by rfl) ?_ hS rfl ?_
                  rotate_left
                  · intro w' hw
                    have hc := x1 w' hw
                    go_simp
                    try with_reducible rfl
                  simp only [Act.put, List.setIfInBounds_toArray, List.set_cons_zero, List.set_cons_succ]
                  refine hs_take (i := 10) (d := some 94) (v := .agg (winL q).toArray) rfl (by kernel_rfl) (by kernel_rfl) (by kernel_rfl) (by rfl) (fun w' hw => exec_load rfl rfl (run_loadVar_mid (P := Tryd.prog) w' wb (woff + C * 2) 69 (winL q) _ (kw w' hw) Tryd.underlying69 rfl hiw)) hS rfl ?_
                  simp only [Act.put, List.setIfInBounds_toArray, List.set_cons_zero, List.set_cons_succ]
                  refine hs_call (i := 13) (d := some 97) rfl (by kernel_rfl) (by rfl) (by go_simp; first | done | exact ⟨rfl, rfl⟩ | with_reducible rfl) rfl ?_
                  refine (cd w8).mono ?_
                  rintro e' wA ⟨rfl, hbA⟩
                  have hS : (Below w8.heap.size w8) wA := hbA
                  refine ⟨_, rfl, hS, ?_⟩
                  simp only [Act.put, List.setIfInBounds_toArray, List.set_cons_zero, List.set_cons_succ]
                  refine hs_take (i := 14) (d := some 98) (v := ?_) rfl (by kernel_rfl) (by kernel_rfl) (by kernel_rfl) (by rfl) ?_ hS rfl ?_
                  rotate_left
                  · intro w' hw
                    go_simp
                    try with_reducible rfl
                  simp only [Act.put, List.setIfInBounds_toArray, List.set_cons_zero, List.set_cons_succ]
                  refine hs_done (by kernel_rfl) ?_
                  have hwE : Below w4.heap.size w4 wA := hB8.trans (hS.mono hB8.size)
                  have hG2s : G2 + 1 ≤ 1000000 := by omega
                  go_wp2_with fail
                  go_roundw
                  case rel => exact ⟨j + 1, G2 + 1, rest, by omega, by go_num, by go_num, HR2, by omega, ownsB hx3 hwE, hBw4.trans (hwE.mono hBw4.size)⟩
                  case measure => simp [intOf]; omega
              · rw [List.getElem?_eq_none (by omega)] at HV
                have HP : Hid (leftR ws r = true) := hide HV.out
                have hCI : ¬ (C : Int) < (ws.length : Int) := by omega
                clear HV
                refine hs_begin (S := (Below w8.heap.size w8)) 15 rfl (by kernel_rfl) ?_
                rw [hw8]
                have hS : (Below w8.heap.size w8) w8 := Below.refl _ _
                refine hs_take (i := 0) (d := some 84) (v := ?_) rfl (by kernel_rfl) (by kernel_rfl) (by kernel_rfl) (by rfl) ?_ hS rfl ?_
                rotate_left
                · intro w' hw
                  go_simp
                  try with_reducible rfl
                simp only [Act.put, List.setIfInBounds_toArray, List.set_cons_zero, List.set_cons_succ]
                refine hs_take (i := 1) (d := some 85) (v := ?_) rfl (by kernel_rfl) (by kernel_rfl) (by kernel_rfl) (by rfl) ?_ hS rfl ?_
                rotate_left
                · intro w' hw
                  have hc := x0 w' hw
                  go_simp
                  try with_reducible rfl
                simp only [Act.put, List.setIfInBounds_toArray, List.set_cons_zero, List.set_cons_succ]
                refine hs_take (i := 2) (d := some 86) (v := ?_) rfl (by kernel_rfl) (by kernel_rfl) (by kernel_rfl) (by rfl) ?_ hS rfl ?_
                rotate_left
                · intro w' hw
                  go_simp
                  try with_reducible rfl
                simp only [Act.put, List.setIfInBounds_toArray, List.set_cons_zero, List.set_cons_succ]
                refine hs_take (i := 3) (d := some 87) (v := ?_) rfl (by kernel_rfl) (by kernel_rfl) (by kernel_rfl) (by rfl) ?_ hS rfl ?_
                rotate_left
                · intro w' hw
                  go_simp
                  try with_reducible rfl
                simp only [Act.put, List.setIfInBounds_toArray, List.set_cons_zero, List.set_cons_succ]
                refine hs_take (i := 4) (d := some 88) (v := .bool false) rfl (by kernel_rfl) (by kernel_rfl) (by kernel_rfl) (by rfl) (fun w' hw => by go_simp) hS rfl ?_
                simp only [Act.put, List.setIfInBounds_toArray, List.set_cons_zero, List.set_cons_succ]
                refine hs_take (i := 5) (d := some 89) (v := ?_) rfl (by kernel_rfl) (by kernel_rfl) (by kernel_rfl) (by rfl) ?_ hS rfl ?_
                rotate_left
                · intro w' hw
                  go_simp
                  try with_reducible rfl
                simp only [Act.put, List.setIfInBounds_toArray, List.set_cons_zero, List.set_cons_succ]
                refine hs_skip (i := 6) (d := some 90) rfl (by kernel_rfl) (by kernel_rfl) (by kernel_rfl) (by rfl) hS rfl ?_
                simp only [Act.put, List.setIfInBounds_toArray, List.set_cons_zero, List.set_cons_succ]
                refine hs_skip (i := 7) (d := some 91) rfl (by kernel_rfl) (by kernel_rfl) (by kernel_rfl) (by rfl) hS rfl ?_
                simp only [Act.put, List.setIfInBounds_toArray, List.set_cons_zero, List.set_cons_succ]
                refine hs_skip (i := 8) (d := some 92) rfl (by kernel_rfl) (by kernel_rfl) (by kernel_rfl) (by rfl) hS rfl ?_
                simp only [Act.put, List.setIfInBounds_toArray, List.set_cons_zero, List.set_cons_succ]
                refine hs_skip (i := 9) (d := some 93) rfl (by kernel_rfl) (by kernel_rfl) (by kernel_rfl) (by rfl) hS rfl ?_
                simp only [Act.put, List.setIfInBounds_toArray, List.set_cons_zero, List.set_cons_succ]
                refine hs_skip (i := 10) (d := some 94) rfl (by kernel_rfl) (by kernel_rfl) (by kernel_rfl) (by rfl) hS rfl ?_
                simp only [Act.put, List.setIfInBounds_toArray, List.set_cons_zero, List.set_cons_succ]
                refine hs_skip (i := 11) (d := some 95) rfl (by kernel_rfl) (by kernel_rfl) (by kernel_rfl) (by rfl) hS rfl ?_
                simp only [Act.put, List.setIfInBounds_toArray, List.set_cons_zero, List.set_cons_succ]
                refine hs_skip (i := 12) (d := some 96) rfl (by kernel_rfl) (by kernel_rfl) (by kernel_rfl) (by rfl) hS rfl ?_
                simp only [Act.put, List.setIfInBounds_toArray, List.set_cons_zero, List.set_cons_succ]
                refine hs_skip (i := 13) (d := some 97) rfl (by kernel_rfl) (by kernel_rfl) (by kernel_rfl) (by rfl) hS rfl ?_
                simp only [Act.put, List.setIfInBounds_toArray, List.set_cons_zero, List.set_cons_succ]
                refine hs_take (i := 14) (d := some 98) (v := .bool false) rfl (by kernel_rfl) (by kernel_rfl) (by kernel_rfl) (by rfl) (fun w' hw => by go_simp) hS rfl ?_
                simp only [Act.put, List.setIfInBounds_toArray, List.set_cons_zero, List.set_cons_succ]
                refine hs_done (by kernel_rfl) ?_
                obtain ⟨wA, hwA⟩ : ∃ wA, wA = w8 := ⟨_, rfl⟩
                have hwE : Below w4.heap.size w4 wA := by rw [hwA]; exact hB8
                have hR9 : wA.rangeAt wr.heap.size 0 u := by rw [hwA]; exact hR8
                rw [← hwA]
                clear hw8 hwA
                have HR2 : Hid (rest ++ [r] = (l.take (j + 1)).filter (leftR ws)) := hide (by rw [HTK.out, List.filter_append, ← HR.out]; simp [HP.out])
                have hxE := ownsB hx3 hwE
                have hBA3 : Below w3.heap.size w3 wA := hBw4.trans (hwE.mono hBw4.size)
                obtain ⟨v', wF, hrun, hoA, hgr, hap⟩ := append_reqB hBA3.size hxE hul hu1 (by omega) 43
                go_upto_region 21 with fail
                refine wp_region_list ?_
                refine wpList_step fun K hK => ?_
                go_simp
                refine hK _ _ ?_
                clear hK K
                refine wpList_load_mid rfl 35 _ rfl _ _ rfl u _ hR9 Tryd.underlying35 rfl hiq ?_
                refine wpList_run1 rfl (exec_bs1 rfl rfl (bs_req hul wA)) ?_
                refine wpList_run1 rfl (exec_append1 rfl rfl rfl hrun) ?_
                obtain ⟨va3, vcap3, rfl⟩ := owns_slice hoA
                go_wp2_with fail
                go_roundw
                case rel =>
                  refine ⟨j + 1, G2, rest ++ [r], by omega, by go_num, rfl, HR2, by simp; omega, ?_, hBA3.grown hgr hBA3.size (owns_base hxE)⟩
                  rw [flatR_append]
                  have e1 : flatR [r] = u := by rw [← hu.out]; simp [flatR]
                  rw [e1]
                  simpa using hoA
                case measure => simp [intOf]; omega
            · have hje : j = l.length := by omega
              have k2 : ¬ (j : Int) < (l.length : Int) := by omega
              have hrest : rest = l.filter (leftR ws) := by rw [HR.out, hje, List.take_length]
              have hBall : Below wb1.heap.size wb1 wr := hb3.trans (hBq.mono hb3.size)
              have hLA2 := hLA.below hBall
              have hxr2 := owns_weak hxr (show w2.heap.size ≤ w3.heap.size from Nat.le_trans hBb.size hb3.size)
              obtain ⟨xa, xc, rfl⟩ := owns_slice hxr
              have hxa : ∀ g, (Value.slice xa rest.length xc).ownBlock = some g → (Value.slice lva vs.length lvc).ownBlock ≠ some g := fun g hg hl2 => by
                have e1 := owns_base hxr g hg
                have e2 := owns_lt hLA.own hl2
                have e3 := hb3.size
                omega
              have hBw2 : Below w2.heap.size w2 wr := hBb.trans (hBall.mono hBb.size)
              have hvl : vs.length ≤ 64 := by have := hLA.len; rw [List.length_map, List.length_take] at this; omega
              obtain ⟨lv', wF, hrun, hown2, hgr, hap⟩ := append_sl (.slice xa rest.length xc) rfl hBw2.size hLA2.own (by omega) 57
              have HLA3 := hide (hLA2.push hxr2 hxa hown2 hgr hap)
              have HB3 : Hid (Below w2.heap.size w2 wF) := hide (hBw2.grown hgr hBw2.size (owns_base hLA2.own))
              have HG3 : Hid (G2 + (flatP ((ls.take (b + 1)).map (List.filter (leftR ws)))).length = (flatP (ls.take (b + 1))).length) := hide (by
                have e1 := HG.out
                have e2 := flat_take hl
                rw [map_take hl, flat_snoc, ← e2, ← hrest]
                omega)
              have hG2s : G2 ≤ 1024 := by
                have e1 := HG3.out
                have e2 := flat_take_le ls (b + 1)
                omega
              rw [hrest] at HLA3
              rw [← map_take hl, ← hrest] at HLA3
              clear hrest hje HR
              go_wp2_with (at_builtin; refine wpList_append_run rfl _ _ 57 57 rfl _ _ lv' wF rfl rfl hrun ?_)
              obtain ⟨va3, vcap3, rfl⟩ := owns_slice hown2
              go_roundw
              case rel => exact ⟨b + 1, G2, _, by omega, by go_num, rfl, HG3, hG2s, HLA3.out, HB3.out⟩
              case measure => simp [intOf]; omega
        · have kb : ¬ (b : Int) < (k : Int) := by omega
          rw [List.take_of_length_le (by omega)] at hLA HG
          have h4 := h3.below hBb
          have hoQ : ∀ x, Q.own x → x < w2.heap.size := fun x hx => h3.at_.R.own_lt hx
          have cS1 := psweep_in h4 (cap := cc) hws hwok
          rw [hqQ.out] at cS1
          have hft := filter_twice ls (leftR ws)
          have hLen2 : (ls.map (List.filter (leftR ws))).length = k := by rw [List.length_map]; exact hLen
          have hfl := HG.out
          generalize ls.map (List.filter (leftR ws)) = ls2 at *
          obtain ⟨lva, lvc, rfl⟩ := owns_slice hLA.own
          clear HG
          go_wp2_with fail
          refine cS1.mono ?_
          rintro e wS ⟨N1, rfl, hN1, Q1, hp1, h5, hoff1, hown1⟩
          have hq1 : Hid (ptr Q1 = .pointer (some qp)) := hide hp1
          obtain rfl : N1 = G := by omega
          clear cS1 hp1 hN1 hfl
          have cS2 := psweep_in h5 (cap := cc) hws hwok
          rw [hq1.out, hft] at cS2
          go_wp2_with fail
          refine cS2.mono ?_
          rintro e wT ⟨N2, rfl, hN2, Q2, hp2, h6, hoff2, -⟩
          have hq2 : Hid (ptr Q2 = .pointer (some qp)) := hide hp2
          obtain rfl : N2 = 0 := by omega
          have hLT : LeftAt wT w2.heap.size (.slice lva vs.length lvc) ls2 vs := hLA.at (fun x hx1 hx2 => by
            rw [hoff2.2 x (Nat.lt_of_lt_of_le hx2 hoff1.size) (fun hq => by
              rcases hown1 x hq with q | q
              · have := hoQ x q; omega
              · omega)]
            exact hoff1.2 x hx2 (fun hq => by have := hoQ x hq; omega))
          clear cS2 hp2 hN2 hft hq1 h5 hoff1 hoff2 hown1 hLA h4
          have hsm2 := h6.at_.small
          have hrk2 := h6.at_.R.rok
          have hfew2 := h6.at_.R.few
          go_wp2_with fail
          go_loopw [18, 123] (fun nv iv wr => ∃ b N : Nat, b ≤ k ∧ iv = .int .i64 (b : Int) ∧ nv = .int .i64 (N : Int) ∧ Hid (N = (flatP (ls2.take b)).length) ∧ N ≤ 1024 ∧ Below wT.heap.size wT wr) (fun _ iv _ => k - (intOf iv).toNat)
          case atStart => exact ⟨0, 0, by omega, rfl, rfl, hide (by simp [flatP]), by omega, Below.refl _ _⟩
          case round =>
            obtain ⟨b, N, hb, rfl, rfl, HN, hNs, hBr⟩ := hrel
            by_cases hltb : b < k
            · have kb : (b : Int) < (k : Int) := by omega
              have hbl : b < ls2.length := by omega
              obtain ⟨l, hl⟩ : ∃ l, ls2[b]? = some l := ⟨ls2[b], List.getElem?_eq_getElem hbl⟩
              have hbv : b < vs.length := by rw [hLT.len]; exact hbl
              obtain ⟨v, hv⟩ : ∃ v, vs[b]? = some v := ⟨vs[b], List.getElem?_eq_getElem hbv⟩
              have hkv : (b : Int) < (vs.length : Int) := by omega
              have hinl : inL ls2 (b : Int) = l := by
                unfold inL
                rw [if_pos ⟨by omega, by omega⟩]
                simp [List.getD, hl]
              have hrk := hrk2 l (List.mem_of_getElem? hl)
              have hlm : l.length ≤ 16 := hfew2 l (List.mem_of_getElem? hl)
              have hLr := hLT.below hBr
              obtain ⟨a2, cp2, rfl, -, -, hRA0, -⟩ := own_reqs0 (hLr.inn b v l hv hl) hrk (by unfold maxLen; omega)
              obtain ⟨g, hg, hglt, hgc⟩ : ∃ g, lva = some ⟨g, 0, none⟩ ∧ g < wr.heap.size ∧ wr.cell? ⟨g, b, none⟩ = some (.slice a2 l.length cp2) := by
                rcases hLr.own.2 with ⟨q, q2⟩ | ⟨g, cap2, cur, q, _, hgg, _⟩
                · omega
                · cases q
                  refine ⟨g, rfl, (Array.getElem?_eq_some_iff.1 hgg).1, ?_⟩
                  have := hLr.own.cells (g := g) rfl b _ hv
                  rwa [Addr.add_mid, Nat.zero_add] at this
              subst hg
              have cIn := fun W (h : PoolAt W Q2 16 ls2) => pin_any Q2 16 ls2 (b : Int) W h
              simp only [hq2.out, hinl] at cIn
              have hpk : pickL [] 16 (onceL ls2.length [(b : Int)]) ls2 = l := by
                rw [pick_one (S := []) hbl rfl]
                simp only [List.getD, hl, Option.getD_some]
                exact List.take_of_length_le hlm
              have cPk := fun W (h : PoolAt W Q2 16 ls2) => pick_any Q2 16 ls2 (some ⟨W.heap.size, 0, none⟩) 1 [(b : Int)] 16 none 0 0 [] (W.alloc (.cells #[.int .i64 (b : Int)] 3)) (h.below ((Below.refl _ _).alloc (Nat.le_refl _) _)) (.inr ⟨_, _, rfl, by simp, by simpa [intsV] using range_new W #[.int .i64 (b : Int)] 3⟩) (by simp) (pairsOf_nil _)
              simp only [hq2.out, hpk] at cPk
              have HN2 : Hid (N + l.length = (flatP (ls2.take (b + 1))).length) := hide (by rw [HN.out]; exact flat_take hl)
              have hN2 : N + l.length ≤ 1024 := by
                rw [HN2.out]
                exact Nat.le_trans (flat_take_le ls2 (b + 1)) hsm2
              clear hinl hpk HN
              go_upto_region 31 with fail
              obtain ⟨w8, hw8⟩ : ∃ w8, wr.drew = w8 := ⟨_, rfl⟩
              have hB8 : Below wr.heap.size wr w8 := by rw [← hw8]; exact (Below.refl _ _).drew
              have hBT8 : Below wT.heap.size wT w8 := hBr.trans (hB8.mono hBr.size)
              have hP8 := (h6.below hBT8).at_
              have hRA2 := hRA0.below hB8
              have hg8 : w8.cell? ⟨g, b, none⟩ = some (.slice a2 l.length cp2) := cell_at hgc (hB8.block g hglt)
              have hgl8 : g < w8.heap.size := Nat.lt_of_lt_of_le hglt hB8.size
              have kl : ∀ w', Below w8.heap.size w8 w' → w'.cell? ⟨g, b, none⟩ = some (.slice a2 l.length cp2) := fun w' hw' => cell_at hg8 (hw'.block g hgl8)
              refine hs_begin (S := (Below w8.heap.size w8)) 21 rfl (by kernel_rfl) ?_
              rw [hw8]
              clear hw8
              have hS : (Below w8.heap.size w8) w8 := Below.refl _ _
              refine hs_take (i := 0) (d := some 126) (v := ?_) rfl (by kernel_rfl) (by kernel_rfl) (by kernel_rfl) (by rfl) ?_ hS rfl ?_
              rotate_left
              · intro w' hw
                go_simp
                try with_reducible rfl
              simp only [Act.put, List.setIfInBounds_toArray, List.set_cons_zero, List.set_cons_succ]
              refine hs_take (i := 1) (d := some 127) (v := ?_) rfl (by kernel_rfl) (by kernel_rfl) (by kernel_rfl) (by rfl) ?_ hS rfl ?_
              rotate_left
              · intro w' hw
                go_simp
                try with_reducible rfl
              simp only [Act.put, List.setIfInBounds_toArray, List.set_cons_zero, List.set_cons_succ]
              refine hs_take (i := 3) (d := some 129) (v := ?_) rfl (by kernel_rfl) (by kernel_rfl) (by kernel_rfl) (by rfl) ?_ hS rfl ?_
              rotate_left
              · intro w' hw
                go_simp
                try with_reducible rfl
              simp only [Act.put, List.setIfInBounds_toArray, List.set_cons_zero, List.set_cons_succ]
              refine hs_take (i := 4) (d := some 130) (v := ?_) rfl (by kernel_rfl) (by kernel_rfl) (by kernel_rfl) (by rfl) ?_ hS rfl ?_
              rotate_left
              · intro w' hw
                go_simp
                try with_reducible rfl
              simp only [Act.put, List.setIfInBounds_toArray, List.set_cons_zero, List.set_cons_succ]
              refine hs_take (i := 5) (d := some 131) (v := ?_) rfl (by kernel_rfl) (by kernel_rfl) (by kernel_rfl) (by rfl) ?_ hS rfl ?_
              rotate_left
              · intro w' hw
                go_simp
                try with_reducible rfl
              simp only [Act.put, List.setIfInBounds_toArray, List.set_cons_zero, List.set_cons_succ]
              refine hs_take (i := 6) (d := some 132) (v := ?_) rfl (by kernel_rfl) (by kernel_rfl) (by kernel_rfl) (by rfl) ?_ hS rfl ?_
              rotate_left
              · intro w' hw
                have hc := kl w' hw
                go_simp
                try with_reducible rfl
              simp only [Act.put, List.setIfInBounds_toArray, List.set_cons_zero, List.set_cons_succ]
              refine hs_call (i := 2) (d := some 128) rfl (by kernel_rfl) (by rfl) (by go_simp; first | done | exact ⟨rfl, rfl⟩ | with_reducible rfl) rfl ?_
              refine (cIn w8 hP8).mono ?_
              rintro e' wA ⟨v1, rfl, ho1, hbA⟩
              obtain ⟨a1, cp1, rfl, -, -, hRA1, -⟩ := own_reqs0 ho1 hrk (by unfold maxLen; omega)
              have hS : (Below w8.heap.size w8) wA := hbA
              refine ⟨_, rfl, hS, ?_⟩
              simp only [Act.put, List.setIfInBounds_toArray, List.set_cons_zero, List.set_cons_succ]
              refine hs_call (i := 7) (d := some 133) rfl (by kernel_rfl) (by rfl) (by go_simp; first | done | exact ⟨rfl, rfl⟩ | with_reducible rfl) rfl ?_
              refine (sameR_any a1 a2 cp1 cp2 l wA hRA1 (hRA2.below hbA)).mono ?_
              rintro e' wB ⟨rfl, hbB⟩
              have hS : (Below w8.heap.size w8) wB := hbA.trans (hbB.mono hbA.size)
              refine ⟨_, rfl, hS, ?_⟩
              simp only [Act.put, List.setIfInBounds_toArray, List.set_cons_zero, List.set_cons_succ]
              refine hs_take (i := 8) (d := some 134) (v := ?_) rfl (by kernel_rfl) (by kernel_rfl) (by kernel_rfl) (by rfl) ?_ hS rfl ?_
              rotate_left
              · intro w' hw
                go_simp
                try with_reducible rfl
              simp only [Act.put, List.setIfInBounds_toArray, List.set_cons_zero, List.set_cons_succ]
              refine hs_take (i := 9) (d := some 135) (v := ?_) rfl (by kernel_rfl) (by kernel_rfl) (by kernel_rfl) (by rfl) ?_ hS rfl ?_
              rotate_left
              · intro w' hw
                go_simp
                try with_reducible rfl
              simp only [Act.put, List.setIfInBounds_toArray, List.set_cons_zero, List.set_cons_succ]
              refine hs_take (i := 10) (d := some 136) (v := ?_) rfl (by kernel_rfl) (by kernel_rfl) (by kernel_rfl) (by rfl) ?_ hS rfl ?_
              rotate_left
              · intro w' hw
                go_simp
                try with_reducible rfl
              simp only [Act.put, List.setIfInBounds_toArray, List.set_cons_zero, List.set_cons_succ]
              refine hs_take (i := 11) (d := some 137) (v := ?_) rfl (by kernel_rfl) (by kernel_rfl) (by kernel_rfl) (by rfl) ?_ hS rfl ?_
              rotate_left
              · intro w' hw
                go_simp
                try with_reducible rfl
              simp only [Act.put, List.setIfInBounds_toArray, List.set_cons_zero, List.set_cons_succ]
              refine hs_take (i := 14) (d := some 140) (v := ?_) rfl (by kernel_rfl) (by kernel_rfl) (by kernel_rfl) (by rfl) ?_ hS rfl ?_
              rotate_left
              · intro w' hw
                go_simp
                try with_reducible rfl
              simp only [Act.put, List.setIfInBounds_toArray, List.set_cons_zero, List.set_cons_succ]
              refine hs_take (i := 15) (d := some 141) (v := ?_) rfl (by kernel_rfl) (by kernel_rfl) (by kernel_rfl) (by rfl) ?_ hS rfl ?_
              rotate_left
              · intro w' hw
                go_simp
                try with_reducible rfl
              simp only [Act.put, List.setIfInBounds_toArray, List.set_cons_zero, List.set_cons_succ]
              refine hs_take (i := 16) (d := some 142) (v := ?_) rfl (by kernel_rfl) (by kernel_rfl) (by kernel_rfl) (by rfl) ?_ hS rfl ?_
              rotate_left
              · intro w' hw
                go_simp
                try with_reducible rfl
              simp only [Act.put, List.setIfInBounds_toArray, List.set_cons_zero, List.set_cons_succ]
              refine hs_take (i := 17) (d := some 143) (v := ?_) rfl (by kernel_rfl) (by kernel_rfl) (by kernel_rfl) (by rfl) ?_ hS rfl ?_
              rotate_left
              · intro w' hw
                have hc := kl w' hw
                go_simp
                try with_reducible rfl
              simp only [Act.put, List.setIfInBounds_toArray, List.set_cons_zero, List.set_cons_succ]
              have hbB2 : (Below w8.heap.size w8) wB := hS
              have hS : (Below w8.heap.size w8) (wB.alloc (.cells #[.int .i64 (b : Int)] 3)) := hS.trans (((Below.refl _ _).alloc (Nat.le_refl _) _).mono hS.size)
              refine hs_run (i := 12) (d := some 138) (v := .slice (some ⟨wB.heap.size, 0, none⟩) 1 1) (w' := (wB.alloc (.cells #[.int .i64 (b : Int)] 3))) rfl (by kernel_rfl) (by rfl) (exec_bsI rfl rfl) rfl hS ?_
              simp only [Act.put, List.setIfInBounds_toArray, List.set_cons_zero, List.set_cons_succ]
              refine hs_call (i := 13) (d := some 139) rfl (by kernel_rfl) (by rfl) (by go_simp; first | done | exact ⟨rfl, rfl⟩ | with_reducible rfl) rfl ?_
              refine (cPk wB (hP8.below hbB2)).mono ?_
              rintro e' wC ⟨v2, rfl, ho2, hbC⟩
              obtain ⟨a3, cp3, rfl, -, -, hRA3, -⟩ := own_reqs0 ho2 hrk (by unfold maxLen; omega)
              have hbC2 : (Below w8.heap.size w8) wC := hbB2.trans ((((Below.refl _ _).alloc (Nat.le_refl _) _).trans (hbC.mono (by simp))).mono hbB2.size)
              have hS : (Below w8.heap.size w8) wC := hbC2
              refine ⟨_, rfl, hS, ?_⟩
              simp only [Act.put, List.setIfInBounds_toArray, List.set_cons_zero, List.set_cons_succ]
              refine hs_call (i := 18) (d := some 144) rfl (by kernel_rfl) (by rfl) (by go_simp; first | done | exact ⟨rfl, rfl⟩ | with_reducible rfl) rfl ?_
              refine (sameR_any a3 a2 cp3 cp2 l wC hRA3 (hRA2.below hbC2)).mono ?_
              rintro e' wD ⟨rfl, hbD⟩
              have hS : (Below w8.heap.size w8) wD := hbC2.trans (hbD.mono hbC2.size)
              refine ⟨_, rfl, hS, ?_⟩
              simp only [Act.put, List.setIfInBounds_toArray, List.set_cons_zero, List.set_cons_succ]
              refine hs_take (i := 19) (d := some 145) (v := ?_) rfl (by kernel_rfl) (by kernel_rfl) (by kernel_rfl) (by rfl) ?_ hS rfl ?_
              rotate_left
              · intro w' hw
                go_simp
                try with_reducible rfl
              simp only [Act.put, List.setIfInBounds_toArray, List.set_cons_zero, List.set_cons_succ]
              refine hs_take (i := 20) (d := some 146) (v := ?_) rfl (by kernel_rfl) (by kernel_rfl) (by kernel_rfl) (by rfl) ?_ hS rfl ?_
              rotate_left
              · intro w' hw
                go_simp
                try with_reducible rfl
              simp only [Act.put, List.setIfInBounds_toArray, List.set_cons_zero, List.set_cons_succ]
              refine hs_done (by kernel_rfl) ?_
              have hcD := kl _ hS
              have hBTD := hBT8.trans (hS.mono hBT8.size)
              clear kl
              go_wp2_with fail
              go_roundw
              case rel => exact ⟨b + 1, N + l.length, by omega, by go_num, by go_num, HN2, hN2, hBTD⟩
              case measure => simp [intOf]; omega
            · have kb : ¬ (b : Int) < (k : Int) := by omega
              have h7 := h6.below hBr
              have HE : Hid ((flatP ls2).length = N) := hide (by rw [HN.out, List.take_of_length_le (by omega)])
              have cl := len_any Q2 16 ls2 wr h7.at_
              rw [hq2.out, HE.out] at cl
              have cL := lives_any wr (hG.below h7.b)
              go_wp2_with fail
              refine cl.mono ?_
              rintro e w' ⟨rfl, hx⟩
              obtain rfl := hx.symm
              clear cl hx
              go_wp2_with fail
              refine cL.mono ?_
              rintro e w9 ⟨rfl, hb9⟩
              clear cL
              go_wp2_with fail
              go_ret
              exact ⟨rfl, h7.b.trans (hb9.mono h7.b.size)⟩
end Go.Proofs.YtbfcbjjhdadicaaDoor
