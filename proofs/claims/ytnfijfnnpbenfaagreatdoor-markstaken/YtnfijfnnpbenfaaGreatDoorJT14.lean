/- slices.Values, AppendSeq, Collect, Sorted at []int: contracts.; quorum.Nth: the contract; the chapter's example.; Last; Signs; Signs, whatever is asked; the cha -/
import Derived.Test.YtnfijfnnpbenfaaGreatDoorJT0
import Derived.Test.YtnfijfnnpbenfaaGreatDoorJT7
import Derived.Test.YtnfijfnnpbenfaaGreatDoorJT8
import Derived.RangeFuncBox
import Derived.RangeFuncLeaves
import Derived.Shelf.Abstract
import Derived.OwnWalkIn
import Derived.TacticsInMore
import Derived.LoopNIn
import Derived.LoopIn
import Derived.Maps.AppendAt
import Derived.Sort.OwnSortedInts
import Derived.Test.YtnfijfnnpbenfaaGreatDoorJT12
import Derived.Test.YtnfijfnnpbenfaaGreatDoorJT10
import Derived.Test.YtnfijfnnpbenfaaGreatDoorJT13
namespace Go.Proofs
open Go.Shelf
def Tryz.lays189_ren : Go.Shelf.Ren := ⟨fun | 189 => 142 | 125 => 174 | 257 => 173 | 128 => 208 | 129 => 144 | 294 => 199 | 295 => 200 | 296 => 201 | 297 => 202 | 298 => 203 | 299 => 204 | 216 => 205 | 300 => 206 | 301 => 207 | 328 => 221 | 329 => 222 | 330 => 223 | 331 => 224 | 332 => 225 | 215 => 226 | 343 => 229 | n => n, fun | 28 => 34 | 3 => 3 | 46 => 49 | 0 => 0 | 51 => 142 | 53 => 77 | 4 => 4 | 183 => 251 | 182 => 250 | 131 => 255 | 5 => 5 | 9 => 9 | 218 => 267 | 222 => 271 | 228 => 274 | 229 => 275 | n => n, fun | n => n⟩
theorem Tryz.lays189 : Go.Proofs.Lays.n189 Tryz.prog Tryz.lays189_ren := {
 mixed := by kernel_rfl
 f125 := Tryz.func174.trans (congrArg some (by kernel_rfl))
 f128 := Tryz.func208.trans (congrArg some (by kernel_rfl))
 f129 := Tryz.func144.trans (congrArg some (by kernel_rfl))
 f189 := Tryz.func142.trans (congrArg some (by kernel_rfl))
 f215 := Tryz.func226.trans (congrArg some (by kernel_rfl))
 f216 := Tryz.func205.trans (congrArg some (by kernel_rfl))
 f257 := Tryz.func173.trans (congrArg some (by kernel_rfl))
 f294 := Tryz.func199.trans (congrArg some (by kernel_rfl))
 f295 := Tryz.func200.trans (congrArg some (by kernel_rfl))
 f296 := Tryz.func201.trans (congrArg some (by kernel_rfl))
 f297 := Tryz.func202.trans (congrArg some (by kernel_rfl))
 f298 := Tryz.func203.trans (congrArg some (by kernel_rfl))
 f299 := Tryz.func204.trans (congrArg some (by kernel_rfl))
 f300 := Tryz.func206.trans (congrArg some (by kernel_rfl))
 f301 := Tryz.func207.trans (congrArg some (by kernel_rfl))
 f328 := Tryz.func221.trans (congrArg some (by kernel_rfl))
 f329 := Tryz.func222.trans (congrArg some (by kernel_rfl))
 f330 := Tryz.func223.trans (congrArg some (by kernel_rfl))
 f331 := Tryz.func224.trans (congrArg some (by kernel_rfl))
 f332 := Tryz.func225.trans (congrArg some (by kernel_rfl))
 f343 := Tryz.func229.trans (congrArg some (by kernel_rfl))
 t0 := Tryz.underlying0
 a0 := Tryz.isAgg0
 z0 := Tryz.sizeOf0
 v0 := Tryz.zeroValue0
 t3 := Tryz.underlying3
 a3 := Tryz.isAgg3
 z3 := Tryz.sizeOf3
 v3 := Tryz.zeroValue3
 t4 := Tryz.underlying4
 a4 := Tryz.isAgg4
 z4 := Tryz.sizeOf4
 v4 := Tryz.zeroValue4
 t5 := Tryz.underlying5
 a5 := Tryz.isAgg5
 z5 := Tryz.sizeOf5
 v5 := Tryz.zeroValue5
 t9 := Tryz.underlying9
 a9 := Tryz.isAgg9
 z9 := Tryz.sizeOf9
 v9 := Tryz.zeroValue9
 t28 := Tryz.underlying34
 a28 := Tryz.isAgg34
 z28 := Tryz.sizeOf34
 v28 := Tryz.zeroValue34
 t46 := Tryz.underlying49
 a46 := Tryz.isAgg49
 z46 := Tryz.sizeOf49
 v46 := Tryz.zeroValue49
 t51 := Tryz.underlying142
 a51 := Tryz.isAgg142
 z51 := Tryz.sizeOf142
 v51 := Tryz.zeroValue142
 t53 := Tryz.underlying77
 a53 := Tryz.isAgg77
 z53 := Tryz.sizeOf77
 v53 := Tryz.zeroValue77
 t131 := Tryz.underlying255
 a131 := Tryz.isAgg255
 z131 := Tryz.sizeOf255
 v131 := Tryz.zeroValue255
 t182 := Tryz.underlying250
 a182 := Tryz.isAgg250
 z182 := Tryz.sizeOf250
 v182 := Tryz.zeroValue250
 t183 := Tryz.underlying251
 a183 := Tryz.isAgg251
 z183 := Tryz.sizeOf251
 v183 := Tryz.zeroValue251
 t218 := Tryz.underlying267
 a218 := Tryz.isAgg267
 z218 := Tryz.sizeOf267
 v218 := Tryz.zeroValue267
 t222 := Tryz.underlying271
 a222 := Tryz.isAgg271
 z222 := Tryz.sizeOf271
 v222 := Tryz.zeroValue271
 t228 := Tryz.underlying274
 a228 := Tryz.isAgg274
 z228 := Tryz.sizeOf274
 v228 := Tryz.zeroValue274
 t229 := Tryz.underlying275
 a229 := Tryz.isAgg275
 z229 := Tryz.sizeOf275
 v229 := Tryz.zeroValue275 }
open Go.Sort Go.RowKit in
theorem Tryz.slices_Sort_int (blk off cap : Nat) (zs : List Int) (w : World) (hH : Holds (Value.int .i64) w blk off zs.toArray) (hblk : blk < w.heap.size) (hsz : zs.length < 4611686018427387904) :
  Calls Tryz.prog 142 #[.slice (some ⟨blk, off, none⟩) zs.length cap] w fun e w' =>
   e = .returned (.tuple #[]) ∧ ∃ n os, w' = grow (putRow (Value.int .i64) (Sort.ahead w n) blk off (zs.mergeSort fun x y => decide (x ≤ y)).toArray) os := Any.slices_Sort_int Tryz.lays189 blk off cap zs w hH hblk hsz
open Go.RowKit Go.Sort in
theorem Tryz.slices_Sort_int_none (p : Option Addr) (cap : Nat) (w : World) :
  Calls Tryz.prog 142 #[.slice p 0 cap] w fun e w' => e = .returned (.tuple #[]) ∧ w' = w := Any.slices_Sort_int_none Tryz.lays189 p cap w
end Go.Proofs
namespace Go.Proofs.YtnfijfnnpbenfaaGreatDoor.Mk.Nq
open Go.RowKit Go.Shelf
attribute [local go_sem] Oper.semAt_some
theorem info3 : (Tryz.prog.info? 3).map (fun i => (i.zero, i.size, i.bytes)) = some (some (.int .i64 0), 1, 8) := by kernel_rfl
def upto (zs : List Int) (k : Nat) : List Int := zs.take k
theorem upto_succ (zs : List Int) (k : Nat) (h : k < zs.length) : upto zs (k + 1) = upto zs k ++ [zs[k]?.getD 0] := by
 unfold upto; rw [List.take_succ_eq_append_getElem h, List.getElem?_eq_getElem h]; rfl
theorem upto_length (zs : List Int) (k : Nat) (h : k ≤ zs.length) : (upto zs k).length = k := by simp [upto, h]
def ValsAt (n₀ : Nat) (W : World) (a : Option Addr) (zs : List Int) : Prop :=
 zs = [] ∨ ∃ b off, a = some ⟨b, off, none⟩ ∧ b < n₀ ∧ ∀ j, j < zs.length → W.cell? ⟨b, off + j, none⟩ = some (.int .i64 (zs[j]?.getD 0))
theorem ValsAt.below {n₀ : Nat} {A B : World} (h : Below n₀ A B) {a : Option Addr} {zs : List Int} : ValsAt n₀ A a zs → ValsAt n₀ B a zs
 | .inl e => .inl e
 | .inr ⟨b, off, e, hb, hc⟩ => .inr ⟨b, off, e, hb, fun j hj => (h.cell (p := ⟨b, off + j, none⟩) hb).trans (hc j hj)⟩
set_option maxRecDepth 100000 in
set_option maxHeartbeats 2000000 in
theorem values1_in (F : Fence) (n : Nat) (h7 : F.fn 143) (hro : F.round = none) (hn : 1 ≤ n) (l Bs n₀ : Nat) (a : Option Addr) (cap : Nat) (zs : List Int) (hreach : zs.length * 8 ≤ 140737488351232) (J Jx : List Int → World → Prop)
  (hY : ∀ pre x W, J pre W → pre.length < zs.length → YieldAt F (n - 1) Tryz.prog l #[.int .i64 x] W fun e W' =>
   (e = .returned (.bool true) ∧ J (pre ++ [x]) W' ∧ Below n₀ W W') ∨ (e = .returned (.bool false) ∧ Jx (pre ++ [x]) W'))
  (W : World) (hBs : W.cell? ⟨Bs, 0, none⟩ = some (.slice a zs.length cap)) (hc : ValsAt n₀ W a zs) (h0 : J [] W) :
  CallsIn F n Tryz.prog 143 #[.func (.yield l) #[] #[], .pointer (some ⟨Bs, 0, none⟩)] W fun e W' => (∃ v, e = .returned v) ∧
   ((∃ ys, ys = zs ∧ J ys W') ∨ (∃ pre, pre <+: zs ∧ Jx pre W')) := by
 refine callsIn_of_wp Tryz.func143 rfl h7 ?_ hro
 simp only [Tryz.ntmps143, List.size_toArray, List.length_cons, List.length_nil, Nat.reduceAdd, Nat.reduceSub, Array.replicate_succ, Array.replicate_zero, List.push_toArray, List.append_toArray, List.nil_append, List.cons_append]
 gi_wp2
 gi_loopw [7] (fun i wr => ∃ k : Nat, k ≤ zs.length ∧ i = .int .i64 k ∧ J (upto zs k) wr ∧ Below n₀ W wr)
  (fun i _ => zs.length - (intOf i).toNat)
 case atStart => exact ⟨0, Nat.zero_le _, rfl, h0, Below.refl _ _⟩
 case round =>
  obtain ⟨k, hk, rfl, hJs, hnx⟩ := hrel
  by_cases hlt : k < zs.length
  ·obtain ⟨b, off, rfl, hb, hcc⟩ : ∃ b off, a = some ⟨b, off, none⟩ ∧ b < n₀ ∧ ∀ j, j < zs.length → W.cell? ⟨b, off + j, none⟩ = some (.int .i64 (zs[j]?.getD 0)) := by
    rcases hc with rfl | h
    ·simp at hlt
    ·exact h
   obtain ⟨fn, tmps, assign, body, hy, hR⟩ := hY _ (zs[k]?.getD 0) wr hJs (by rw [upto_length _ _ hk]; exact hlt)
   have hcx' : wr.cell? ⟨b, off + k, none⟩ = some (.int .i64 (zs[k]?.getD 0)) := (hnx.cell (p := ⟨b, off + k, none⟩) hb).trans (hcc k hlt)
   have HU := hide (upto_succ zs k hlt)
   clear hcc
   generalize zs[k]?.getD 0 = x at *
   gi_wp2
   refine hR.mono ?_
   rintro e W3 (⟨rfl, hJ3, hk3⟩ | ⟨rfl, hJx3⟩)
   ·gi_wp2
    go_roundw
    case rel => exact ⟨k + 1, by omega, by simp, by rw [HU.out]; exact hJ3, hnx.trans hk3⟩
    case measure => simp [intOf]; omega
   ·gi_wp2
    refine bodyPost_ret (results_none rfl _ _ _) rfl ?_
    exact ⟨⟨_, rfl⟩, .inr ⟨_, by rw [← HU.out]; exact List.take_prefix _ _, hJx3⟩⟩
  ·obtain rfl : k = zs.length := by omega
   gi_wp2
   go_end0
   exact ⟨⟨_, rfl⟩, .inl ⟨_, List.take_length, hJs⟩⟩
set_option maxHeartbeats 1000000 in
theorem values_in (F : Fence) (n : Nat) (h5 : F.fn 101) (hro : F.round = none) (a : Option Addr) (len cap : Nat) (w : World) :
  CallsIn F n Tryz.prog 101 #[.slice a len cap] w fun e w' => e = .returned (.func (.func 143) #[] #[.pointer (some ⟨w.heap.size, 0, none⟩)]) ∧ w' = w.alloc (.cells #[.slice a len cap] 34) := by
 refine callsIn_of_wp Tryz.func101 rfl h5 ?_ hro
 simp only [Tryz.ntmps101, List.size_toArray, List.length_cons, List.length_nil, Nat.reduceAdd, Nat.reduceSub, Array.replicate_succ, Array.replicate_zero, List.push_toArray, List.append_toArray, List.nil_append, List.cons_append]
 gi_wp2
 go_ret
 exact ⟨rfl, rfl⟩
theorem values_stops (F : Fence) (n : Nat) (h7 : F.fn 143) (hro : F.round = none) (hn : 1 ≤ n) (Bs n₀ : Nat) (a : Option Addr) (cap : Nat) (zs : List Int) (hreach : zs.length * 8 ≤ 140737488351232) (w : World) (hBs : Bs < w.heap.size) (hn₀ : n₀ ≤ w.heap.size)
  (hc : w.cell? ⟨Bs, 0, none⟩ = some (.slice a zs.length cap)) (hI : ValsAt n₀ w a zs) :
  SeqStopsK F n Tryz.prog 143 #[.pointer (some ⟨Bs, 0, none⟩)] (fun x : Int => #[Value.int .i64 x]) (Below n₀) (fun ys => ys = zs) (fun pre => pre <+: zs) zs.length w := fun l J Jx W hW _ _ hY h0 =>
 values1_in F n h7 hro hn l Bs n₀ a cap zs hreach J Jx hY W ((hW.cell (p := ⟨Bs, 0, none⟩) hBs).trans hc) (hI.below (hW.mono hn₀)) h0
set_option maxRecDepth 100000 in
set_option maxHeartbeats 2000000 in
theorem appendSeq_in (F : Fence) (n : Nat) (h3 : F.fn 172) (h5 : F.fn 143) (hro : F.round = none) (hn : 3 ≤ n) (Bs : Nat) (a : Option Addr) (cap : Nat) (zs : List Int) (hbytes : zs.length * 8 ≤ 140737488351232) (w : World)
  (hBs : Bs < w.heap.size) (hcB : w.cell? ⟨Bs, 0, none⟩ = some (.slice a zs.length cap)) (hI : ValsAt w.heap.size w a zs) :
  CallsIn F n Tryz.prog 172 #[.slice none 0 0, .func (.func 143) #[] #[.pointer (some ⟨Bs, 0, none⟩)]] w fun e W' => ∃ v, e = .returned v ∧ W'.ownsRow w.heap.size 3 1 v zs.length (zs.map (Value.int .i64)) ∧ (v = .slice none 0 0 ↔ zs = []) ∧ Below w.heap.size w W' := by
 have h1 : 1 ≤ n := by omega
 have hml : zs.length ≤ maxLen := by unfold maxLen; omega
 obtain ⟨i0, hi, hz0, hz1, hz2⟩ := info_parts info3
 refine callsIn_of_wp_marks Tryz.func172 rfl h3 ?_ hro
 simp only [Tryz.ntmps172, List.size_toArray, List.length_cons, List.length_nil, Nat.reduceAdd, Nat.reduceSub, Array.replicate_succ, Array.replicate_zero, List.push_toArray, List.append_toArray, List.nil_append, List.cons_append]
 gi_wp2
 have bO := Boxed.new w 34 (.slice none 0 0)
 have hB0 : Below w.heap.size w (w.alloc (.cells #[.slice none 0 0] 34)) := (Below.refl _ w).alloc (Nat.le_refl _) _
 have hcB' : (w.alloc (.cells #[.slice none 0 0] 34)).cell? ⟨Bs, 0, none⟩ = some (.slice a zs.length cap) := (hB0.cell (p := ⟨Bs, 0, none⟩) hBs).trans hcB
 refine wpIn_rangeFunc_ownG hro h1 (gf := 143) (lb := #[.pointer (some ⟨Bs, 0, none⟩)]) rfl h5 (enters_of Tryz.func143 (by kernel_rfl) rfl)
  (values_stops F (n - 1) h5 hro (by omega) Bs w.heap.size a cap zs hbytes _ (by simp; omega) (by simp) hcB' (hI.below hB0)) belowK_t (belowK_b (by simp)) (Below.refl _ _) (fun _ => rfl)
  (fun pre W => (∃ v, Boxed W w.heap.size 34 v ∧ W.ownsRow w.heap.size 3 1 v pre.length (pre.map (Value.int .i64)) ∧ (v = .slice none 0 0 ↔ pre = [])) ∧ Below w.heap.size w W)
  (fun _ _ _ => False)
  (OwnFrom.and (Own.from (holdsRow_own w.heap.size w.heap.size 34 3 1 (fun pre : List Int => pre.length) (fun pre => pre.map (Value.int .i64)) (fun pre v => v = .slice none 0 0 ↔ pre = [])) _) (ownFrom_below (Nat.le_refl _) (by simp)))
  (fun _ _ _ _ _ hs _ _ => hs)
  ⟨⟨_, bO, World.ownsRow_nil _ _ _ _, by simp⟩, hB0⟩
  (fun x => { tmps := #[.slice none 0 0, .func (.func 143) #[] #[.pointer (some ⟨Bs, 0, none⟩)], .pointer (some ⟨w.heap.size, 0, none⟩), undef, .slice none 0 0, .int .i64 x, .func (.func 143) #[] #[.pointer (some ⟨Bs, 0, none⟩)], .int .i64 x, undef, undef, undef, undef, undef], defers := [] }) ?assign ?body ?done ?stop
 case assign =>
  intro l x W K hK
  gi_wp2
  exact hK
 case body =>
  rintro l pre x W ⟨⟨v, hv, hrow, hnil⟩, hB⟩ hlt
  have hc := hv.cell
  gi_wp2_with (gi_at_builtin; refine wpListIn_append_own _ rfl _ _ 34 rfl w.heap.size 3 i0 (.int .i64 0) 1 8 Tryz.underlying34 hi hz0 hz1 hz2 rfl (by decide) _ _ _ rfl (hrow.alloc _) ⟨W.heap.size, 0, none⟩ 1 1 [.int .i64 x] rfl rfl (cell_one_new _ _ _) (by simp [Value.oneCell']) (by omega) (by omega) (by have := hB.size; simp; omega) ?_; intro v' w1 hown' hgrow _; obtain ⟨g', cap', rfl⟩ := ownsRow_succ hown'; obtain ⟨hv1, hv2, hr2, hk2, hb2⟩ := hv.appended (by decide) hrow hB.size (Nat.le_refl _) hown' hgrow; have hc1 := hv1.cell; have hf1 := hv1.frozen)
  exact ⟨hk2.from _, hb2, ⟨_, hv2, by simpa using hr2, by simp⟩, hB.trans hb2⟩
 case done =>
  rintro D ys W hD rfl ⟨⟨v, hv, hrow, hnil⟩, hB⟩ hK
  have hc := hv.cell
  gi_wp2
  refine ⟨by simp, .inl ⟨_, _, rfl, run_takeDeferred hK, ?_⟩⟩
  exact ⟨_, results_tmp rfl _ _ _, v, rfl, ownsRow_putObj hrow _ hK rfl, hnil, hB.trans (belowK_b (w := w) (Nat.le_refl _) W D _ _ (by simp at hD; omega) hK rfl rfl)⟩
 case stop =>
  rintro D c pre W _ _ h _
  exact h.elim
set_option maxHeartbeats 1000000 in
theorem collect_in (F : Fence) (n : Nat) (h8 : F.fn 141) (h3 : F.fn 172) (h5 : F.fn 143) (hro : F.round = none) (hn : 4 ≤ n) (Bs : Nat) (a : Option Addr) (cap : Nat) (zs : List Int) (hbytes : zs.length * 8 ≤ 140737488351232) (w : World)
  (hBs : Bs < w.heap.size) (hcB : w.cell? ⟨Bs, 0, none⟩ = some (.slice a zs.length cap)) (hI : ValsAt w.heap.size w a zs) :
  CallsIn F n Tryz.prog 141 #[.func (.func 143) #[] #[.pointer (some ⟨Bs, 0, none⟩)]] w fun e W' => ∃ v, e = .returned v ∧ W'.ownsRow w.heap.size 3 1 v zs.length (zs.map (Value.int .i64)) ∧ (v = .slice none 0 0 ↔ zs = []) ∧ Below w.heap.size w W' := by
 have h1 : 1 ≤ n := by omega
 have c := appendSeq_in F (n - 1) h3 h5 hro (by omega) Bs a cap zs hbytes w hBs hcB hI
 clear hcB hI
 refine callsIn_of_wp Tryz.func141 rfl h8 ?_ hro
 simp only [Tryz.ntmps141, List.size_toArray, List.length_cons, List.length_nil, Nat.reduceAdd, Nat.reduceSub, Array.replicate_succ, Array.replicate_zero, List.push_toArray, List.append_toArray, List.nil_append, List.cons_append]
 gi_wp2_with (gi_at_call 172; refine c.mono ?_; rintro e w' ⟨v, rfl, hrow, hnil, hb⟩)
 go_ret
 exact ⟨v, rfl, hrow, hnil, hb⟩
theorem collect_any (Bs : Nat) (a : Option Addr) (cap : Nat) (zs : List Int) (hbytes : zs.length * 8 ≤ 140737488351232) (w : World)
  (hBs : Bs < w.heap.size) (hcB : w.cell? ⟨Bs, 0, none⟩ = some (.slice a zs.length cap)) (hI : ValsAt w.heap.size w a zs) :
  Calls Tryz.prog 141 #[.func (.func 143) #[] #[.pointer (some ⟨Bs, 0, none⟩)]] w fun e W' => ∃ v, e = .returned v ∧ W'.ownsRow w.heap.size 3 1 v zs.length (zs.map (Value.int .i64)) ∧ (v = .slice none 0 0 ↔ zs = []) ∧ Below w.heap.size w W' :=
 (callsIn_wide (n := 4)).1 (collect_in _ 4 trivial trivial trivial rfl (Nat.le_refl _) Bs a cap zs hbytes w hBs hcB hI)
theorem values_any (a : Option Addr) (len cap : Nat) (w : World) :
  Calls Tryz.prog 101 #[.slice a len cap] w fun e w' => e = .returned (.func (.func 143) #[] #[.pointer (some ⟨w.heap.size, 0, none⟩)]) ∧ w' = w.alloc (.cells #[.slice a len cap] 34) :=
 (callsIn_wide (n := 4)).1 (values_in _ 4 trivial rfl a len cap w)
open Go.Sort in
set_option maxHeartbeats 1000000 in
theorem sorted_any (Bs : Nat) (a : Option Addr) (cap : Nat) (zs : List Int) (hbytes : zs.length * 8 ≤ 140737488351232) (w : World)
  (hBs : Bs < w.heap.size) (hcB : w.cell? ⟨Bs, 0, none⟩ = some (.slice a zs.length cap)) (hI : ValsAt w.heap.size w a zs) :
  Calls Tryz.prog 100 #[.func (.func 143) #[] #[.pointer (some ⟨Bs, 0, none⟩)]] w fun e W' => ∃ v, e = .returned v ∧ W'.ownsRow w.heap.size 3 1 v zs.length ((zs.mergeSort (fun x y => decide (x ≤ y))).map (Value.int .i64)) ∧ Below w.heap.size w W' := by
 have c := collect_any Bs a cap zs hbytes w hBs hcB hI
 have hsz : zs.length < 4611686018427387904 := by omega
 clear hcB hI hbytes
 go_enter Tryz.func100, Tryz.ntmps100
 go_wp2_with (go_at_call 141; refine c.mono ?_; rintro e W ⟨v, rfl, hrow, hnil, hb⟩)
 rcases hrow.2 with ⟨rfl, hz⟩ | ⟨gb, cap, cur, rfl, hbase, hgb, r1, r2, r3, r4⟩
 ·have hss : zs = [] := List.eq_nil_of_length_eq_zero hz
  subst hss
  go_wp2_with (go_at_call 142; refine (Tryz.slices_Sort_int_none none 0 W).mono ?_; rintro e w' ⟨rfl, rfl⟩)
  go_ret
  exact ⟨.slice none 0 0, rfl, by simpa using hrow, hb⟩
 ·have hH : Holds (Value.int .i64) W gb 0 zs.toArray := holds_of_blockI hgb (by simpa using r4)
  have hgl : gb < W.heap.size := (Array.getElem?_eq_some_iff.1 hgb).1
  have cS := Tryz.slices_Sort_int gb 0 cap zs W hH hgl hsz
  go_wp2_with (go_at_call 142; refine cS.mono ?_; rintro e w' ⟨rfl, nn, os, rfl⟩)
  go_ret
  exact ⟨_, rfl, ownsRow_sortedI (by simp) hbase hgb r1 r2 r3, hb.grown (grownBy_sortedI _) hb.size (fun j hj => by cases hj; exact hbase)⟩
open Go.RowKit
theorem RowI.vals {w : World} {a : Option Addr} {zs : List Int} (h : RowI w a zs) : ValsAt w.heap.size w a zs := h.2
theorem nth_at (zs : List Int) (i : Nat) (h1 : 1 ≤ i) (h2 : i ≤ zs.length) : (zs.mergeSort (fun x y => decide (x ≤ y)))[zs.length - i]? = some (nth zs i) := by
 have hp : (zs.mergeSort (fun x y => decide (x ≤ y))).Perm zs := List.mergeSort_perm _ _
 have hl := hp.length_eq
 have hs : (zs.mergeSort (fun x y => decide (x ≤ y))).Pairwise (· ≤ ·) := by
  have := List.pairwise_mergeSort (le := fun x y : Int => decide (x ≤ y)) (fun a b c h1 h2 => by simp at *; omega) (fun a b => by simp; omega) zs
  simpa using this
 rw [nth_sorted zs _ hp hs i h1 h2]
 conv => lhs; rw [← hl]
 exact List.getElem?_eq_getElem (by omega)
theorem own_some {w : World} {base : Nat} {e : TypeId} {v : Value} {n : Nat} {xs : List Value} (h : w.ownsRow base e 1 v n xs) (hn : 0 < n) : ∃ g cap, v = .slice (some ⟨g, 0, none⟩) n cap := by
 rcases h.2 with ⟨rfl, hz⟩ | ⟨g, cap', cur, rfl, _⟩
 ·omega
 ·exact ⟨g, cap', rfl⟩
theorem own_cell {w : World} {base : Nat} {e : TypeId} {g n cap : Nat} {ts : List Int} {p : Nat} {x : Int} (h : w.ownsRow base e 1 (.slice (some ⟨g, 0, none⟩) n cap) n (ts.map (Value.int .i64))) (hp : ts[p]? = some x) : w.cell? ⟨g, p, none⟩ = some (.int .i64 x) := by
 have := h.cells (g := g) rfl p (.int .i64 x) (by rw [List.getElem?_map, hp]; rfl)
 by_cases h0 : p = 0
 ·rw [h0] at this ⊢; simpa [Addr.add] using this
 ·simpa [Addr.add, h0] using this
set_option maxHeartbeats 1000000 in
theorem nth_any (a : Option Addr) (cap : Nat) (zs : List Int) (i : Int) (w : World) (hr : RowI w a zs) (hb : zs.length * 8 ≤ 140737488351232) :
  Calls Tryz.prog 65 #[.slice a zs.length cap, .int .i64 i] w fun e w' => e = .returned (.int .i64 (nth zs i)) ∧ Below w.heap.size w w' := by
 by_cases h1 : i < 1
 ·go_enter Tryz.func65, Tryz.ntmps65
  go_wp2
  go_ret
  exact ⟨ret_int (by rw [nth_none zs i (Or.inl h1)]), Below.refl _ _⟩
 ·by_cases h2 : (zs.length : Int) < i
  ·go_enter Tryz.func65, Tryz.ntmps65
   go_wp2
   go_ret
   exact ⟨ret_int (by rw [nth_none zs i (Or.inr h2)]), Below.refl _ _⟩
  ·obtain ⟨k, rfl⟩ := Int.eq_ofNat_of_zero_le (show 0 ≤ i by omega)
   have hn := hide (nth_at zs k (by omega) (by omega))
   generalize nth zs (k : Int) = x at hn ⊢
   have hB0 : Below w.heap.size w (w.alloc (.cells #[.slice a zs.length cap] 34)) := (Below.refl _ w).alloc (Nat.le_refl _) _
   have cs := sorted_any w.heap.size a cap zs hb (w.alloc (.cells #[.slice a zs.length cap] 34)) (by simp) (by rw [World.cell?_alloc_at _ _ _ _ rfl]; rfl) ((hr.below hB0).vals)
   have ei : (zs.length : Int) - k = ((zs.length - k : Nat) : Int) := by omega
   clear hr
   go_enter Tryz.func65, Tryz.ntmps65
   go_wp2_with (first | (go_at_call 101; refine (values_any a zs.length cap _).mono ?_; rintro e w1 ⟨rfl, rfl⟩) | (go_at_call 100; refine cs.mono ?_; clear cs; rintro e w2 ⟨v, rfl, hrow, hw2⟩; obtain ⟨g, cap', rfl⟩ := own_some hrow (by omega); have hcell : w2.cell? ⟨g, zs.length - k, none⟩ = some (.int .i64 x) := own_cell hrow hn.out; clear hrow))
   go_ret
   exact ⟨rfl, hB0.trans (hw2.mono (by simp))⟩
end Go.Proofs.YtnfijfnnpbenfaaGreatDoor.Mk.Nq
namespace Go.Proofs.YtnfijfnnpbenfaaGreatDoor.Mk
open Go.RowKit Go.Shelf
set_option linter.unusedVariables false
def KeepsAt (Bs : Nat) (A B : World) : Prop := Bs < A.heap.size → B.heap[Bs]? = A.heap[Bs]?
theorem gb_below {A B : World} (h : Below A.heap.size A B) : A.grownBy B none := ⟨h.os, h.tape, h.output, h.size, fun k hk _ => h.block k hk⟩
theorem ownsRow_below {A B : World} {base : Nat} {e : TypeId} {size : Nat} {v : Value} {k : Nat} {xs : List Value} (h : A.ownsRow base e size v k xs) (hb : Below A.heap.size A B) : B.ownsRow base e size v k xs := h.kept (gb_below hb) (by cases v.ownBlock <;> simp)
theorem boxed_below {A B : World} {b : Nat} {t : TypeId} {v : Value} (h : Boxed A b t v) (hb : Below A.heap.size A B) : Boxed B b t v := h.kept (gb_below hb) (by simp)
theorem ownsRow_low {W : World} {base base' : Nat} {e : TypeId} {size : Nat} {v : Value} {k : Nat} {xs : List Value} (hb : base' ≤ base) (h : W.ownsRow base e size v k xs) : W.ownsRow base' e size v k xs := by
 refine ⟨h.1, ?_⟩
 rcases h.2 with h | ⟨g, cap, cur, e1, e2, e3⟩
 ·exact .inl h
 ·exact .inr ⟨g, cap, cur, e1, Nat.le_trans hb e2, e3⟩
theorem ownsRow_slice {W : World} {base : Nat} {e : TypeId} {size : Nat} {v : Value} {k : Nat} {xs : List Value} (h : W.ownsRow base e size v k xs) : ∃ a cap, v = .slice a k cap := by
 rcases h.2 with ⟨rfl, rfl⟩ | ⟨g, cap, cur, rfl, _⟩
 ·exact ⟨none, 0, rfl⟩
 ·exact ⟨_, _, rfl⟩
theorem appended_keeps {W w1 : World} {n₀ B : Nat} {e : TypeId} {size : Nat} {v v' : Value} {k : Nat} {xs : List Value} {tmp : Obj}
  (hrow : W.ownsRow n₀ e size v k xs) (hgrow : (W.alloc tmp).grownBy w1 v.ownBlock) {K : Nat} (hK : K < n₀) (hne : K ≠ B) : KeepsAt K W (w1.setCell ⟨B, 0, none⟩ v') := by
 intro hb
 have e1 : (w1.setCell ⟨B, 0, none⟩ v').heap[K]? = w1.heap[K]? := (grownBy_setCell' w1 B v').block K (by have := hgrow.size; simp at this; omega) (by simp; exact hne)
 have e2 : w1.heap[K]? = (W.alloc tmp).heap[K]? := by
  refine hgrow.block K (by simp; omega) ?_
  rcases hrow.2 with ⟨rfl, _⟩ | ⟨g, cap, cur, rfl, hb', _⟩
  ·simp [Value.ownBlock]
  ·simp [Value.ownBlock]; omega
 rw [e1, e2]
 exact Below.heap_alloc W tmp K hb
theorem appended_box {W w1 : World} {n₀ B : Nat} {t e : TypeId} {size : Nat} {v v' : Value} {k m : Nat} {xs ys : List Value} {tmp : Obj}
  (hv : Boxed W B t v) (hte : t ≠ e) (hrow : W.ownsRow n₀ e size v k xs) (hn₀ : n₀ ≤ W.heap.size) (hB : B ≤ n₀)
  (hown' : w1.ownsRow n₀ e size v' m ys) (hgrow : (W.alloc tmp).grownBy w1 v.ownBlock) :
  Boxed w1 B t v ∧ Boxed (w1.setCell ⟨B, 0, none⟩ v') B t v' ∧ (w1.setCell ⟨B, 0, none⟩ v').ownsRow n₀ e size v' m ys ∧ KeepsOthers W (w1.setCell ⟨B, 0, none⟩ v') ∧ Below B W (w1.setCell ⟨B, 0, none⟩ v') := by
 obtain ⟨a1, a2, a3, a4, a5⟩ := hv.appended hte (ownsRow_low hB hrow) (Nat.le_trans hB hn₀) (Nat.le_refl _) (ownsRow_low hB hown') hgrow
 exact ⟨a1, a2, hown'.kept (grownBy_setCell' w1 B v') (.inr (a1.not_row hte hown').symm), a4, a5⟩
theorem take_set_one {α : Type} (l : List α) (k : Nat) (a : α) (hk : k < l.length) : (l.set k a).take (k + 1) = l.take k ++ [a] := by
 apply List.ext_getElem?
 intro i
 rcases Nat.lt_trichotomy i k with h | h | h
 ·rw [List.getElem?_take_of_lt (by omega), List.getElem?_set_ne (by omega), List.getElem?_append_left (by rw [List.length_take]; omega), List.getElem?_take_of_lt h]
 ·subst h
  rw [List.getElem?_take_of_lt (by omega), List.getElem?_set_self hk, List.getElem?_append_right (by rw [List.length_take]; omega), List.length_take, Nat.min_eq_left (by omega), Nat.sub_self]
  rfl
 ·rw [List.getElem?_eq_none (by rw [List.length_take]; omega), List.getElem?_eq_none (by rw [List.length_append, List.length_take]; simp; omega)]
theorem fold_sets : ∀ (u : List Value) (k : Nat) (arr : Array Value), k + u.length = arr.size → List.foldl (fun (cs : Array Value) (x : Value × Nat) => cs.setIfInBounds x.snd x.fst) arr (u.zipIdx k) = (arr.toList.take k ++ u).toArray
  | [], k, arr, h => by
    simp only [List.length_nil, Nat.add_zero] at h
    rw [List.take_of_length_le (by simp [h])]
    simp
  | a :: u, k, arr, h => by
    simp only [List.length_cons] at h
    rw [List.zipIdx_cons, List.foldl_cons, fold_sets u (k + 1) _ (by simp; omega)]
    congr 1
    show List.take (k + 1) (arr.setIfInBounds k a).toList ++ u = _
    rw [Array.toList_setIfInBounds, take_set_one _ _ _ (by simp; omega), List.append_assoc]
    rfl
theorem fold_u (arr : Array Value) (u : List Value) (h : u.length = arr.size) : List.foldl (fun (cs : Array Value) (x : Value × Nat) => cs.setIfInBounds x.snd x.fst) arr u.zipIdx = u.toArray := by
 have := fold_sets u 0 arr (by omega)
 simpa using this
theorem run_bs1 {P : Program} (t e : TypeId) (i : TypeInfo) (z : Value) (u : List Value) (ht : P.underlying t = some (.slice e)) (hi : P.info? e = some i) (hz : i.zero = some z) (hs : i.size = u.length) (h0 : 0 < u.length) (hm : u.length ≤ 1000) (w : World) :
  (Instr.buildSlice t 1 #[(0, .agg u.toArray)]).run P w = .ok (.slice (some ⟨w.heap.size, 0, none⟩) 1 1) (w.alloc (.cells u.toArray e)) := by
 have h1 : ¬ 2 ^ 24 < u.length := by omega
 have h2 : u ≠ [] := fun h => by rw [h] at h0; simp at h0
 have hf := fold_u ((Array.range u.length).map (z.cells[· % z.cells.size]!)) u (by simp)
 unfold Instr.buildSlice
 simp [run_underlying ht, sizeOf, zeroValue, typeInfo, hi, hz, hs, h1, h2, Instr.fill, Value.cells, newRow]
 rw [fold_u _ u (by simp)]
theorem exec_bs1 {P : Program} {o : Oper} {a : Act} {w : World} {t e : TypeId} {x : Operand} {u : List Value} (ho : o.op = .buildSlice t 1 #[(0, x)]) (hx : a.eval x = .agg u.toArray) (hr : (Instr.buildSlice t 1 #[(0, .agg u.toArray)]).run P w = .ok (.slice (some ⟨w.heap.size, 0, none⟩) 1 1) (w.alloc (.cells u.toArray e))) :
   (execOp a.eval o).run P w = .ok (.value (.slice (some ⟨w.heap.size, 0, none⟩) 1 1)) (w.alloc (.cells u.toArray e)) := by
  unfold execOp
  simp [ho, hx, hr]
theorem ex_put1 {P : Program} {o : Oper} {a : Act} {w : World} {ty : TypeId} {x y : Operand} {b off n : Nat} {v : Value} (ho : o.op = .store ty x y) (hx : a.eval x = .pointer (some ⟨b, off, none⟩)) (hy : a.eval y = v) (ht : w.there b 0 n) (hn : off < n) (hi : (P.info? ty).map (·.size) = some 1) (hvc : v.cells = #[v]) (h1 : v.oneCell' = true) : (execOp a.eval o).run P w = .ok .skip (w.setCells b off [v]) := by
 refine exec_store ho hx hy ?_
 have e : storeVar ty ⟨b, off, none⟩ v = storeVar ty ⟨b, off, none⟩ (.agg #[v]) := by unfold storeVar; rw [hvc]; rfl
 rw [e, run_storeVar_mid w b off ty #[v] (there_part1 ht (by simp; omega)) hi (by simpa using h1)]
theorem Boxed.there1 {W : World} {B : Nat} {t : TypeId} {v : Value} (h : Boxed W B t v) : W.there B 0 1 := fun j hj => by
 obtain rfl : j = 0 := by omega
 exact ⟨by rw [h.cell]; rfl, h.frozen⟩
theorem sets_one (w : World) (b : Nat) (v : Value) : w.setCells b 0 [v] = w.setCell ⟨b, 0, none⟩ v := rfl
def eps (m : Int → Option Mk) : Nat → List Int
  | 0 => []
  | k + 1 => eps m k ++ (match m k with | none => [] | some x => [x.e])
theorem eps_len (m : Int → Option Mk) : ∀ k, (eps m k).length ≤ k
  | 0 => by simp [eps]
  | k + 1 => by
    have := eps_len m k
    unfold eps
    split <;> simp <;> omega
def JL (w : World) (L R : Nat) (m : Int → Option Mk) (k : Nat) (W : World) : Prop :=
 (∃ v, Boxed W L 34 v ∧ W.ownsRow R 3 1 v (eps m k).length ((eps m k).map (Value.int .i64))) ∧ Below L w W ∧ R ≤ W.heap.size ∧ k ≤ 64
theorem infoI : (Tryz.prog.info? 3).map (fun i => (i.zero, i.size, i.bytes)) = some (some (.int .i64 0), 1, 8) := by kernel_rfl
theorem iszSs : (Tryz.prog.info? 24).map (·.size) = some 1 := by kernel_rfl
theorem one_int (w : World) (x : Int) : Src Tryz.prog 1 34 (.slice (some ⟨w.heap.size, 0, none⟩) 1 1) 1 [.int .i64 x] (w.alloc (.cells #[.int .i64 x] 3)) :=
 Src.ofSlice _ Tryz.underlying34 ⟨w.heap.size, 0, none⟩ 1 1 [.int .i64 x] rfl (fun j v hv => by
  rw [Addr.add_mid]
  have := range_new w #[.int .i64 x] 3 j v (by simpa using hv)
  exact this) (by simp [Value.oneCell'])
set_option maxRecDepth 100000 in
set_option maxHeartbeats 2000000 in
theorem last1_any (w : World) (L R : Nat) (hLR : L < R) (m : Int → Option Mk) (k : Nat) (hk : k < 64) (x : Mk) (hx : x.ok) (hm : m k = some x) (W : World) (h : JL w L R m k W) : Calls Tryz.prog 64 #[.int .i64 (k : Int), .agg x.cells.toArray, .pointer (some ⟨L, 0, none⟩)] W fun e W' => e = .returned (.tuple #[]) ∧ JL w L R m (k + 1) W' := by
 obtain ⟨⟨v, hb, hrow⟩, hbl, hR, -⟩ := h
 have hel := eps_len m k
 have hen : eps m (k + 1) = eps m k ++ [x.e] := by rw [eps, hm]
 have hLW := hb.lt
 unfold JL
 rw [hen]
 generalize eps m k = es at *
 clear hm hen
 go_enter Tryz.func64, Tryz.ntmps64
 go_upto_region 1 with fail
 have hB1 : Below W.heap.size W (W.alloc (.cells x.cells.toArray 122)) := (Below.refl _ _).alloc (Nat.le_refl _) _
 have b1 := boxed_below hb hB1
 have o1 := ownsRow_below hrow hB1
 have he : (W.alloc (.cells x.cells.toArray 122)).cell? ⟨W.heap.size, 0, none⟩ = some (.int .i64 x.e) := by
  have := range_new W x.cells.toArray 122 0 _ rfl
  simpa using this
 generalize W.alloc (.cells x.cells.toArray 122) = W1 at *
 have hs1 := hB1.size
 obtain ⟨i0, hi, hz, hs, hby⟩ := info_parts infoI
 have hb2 : Below W1.heap.size W1 (W1.alloc (.cells #[.int .i64 x.e] 3)) := (Below.refl _ _).alloc (Nat.le_refl _) _
 obtain ⟨v', w5, hrun, hown', hgr, -⟩ := run_append_own_src2 (P := Tryz.prog) (W1.alloc (.cells #[.int .i64 x.e] 3)) R 34 34 34 3 i0 (.int .i64 0) 1 8 Tryz.underlying34 hi hz hs hby rfl v es.length (es.map (Value.int .i64)) (ownsRow_below o1 hb2) _ 1 [.int .i64 x.e] (one_int W1 x.e) (by unfold maxLen; omega) (by omega) (by simp; omega)
 obtain ⟨a1, a2, a3, -, a5⟩ := appended_box (v' := v') b1 (by decide) o1 (by omega) (by omega) hown' hgr
 obtain ⟨av, cv, rfl⟩ := ownsRow_slice hown'
 have hvc : (Value.slice av (es.length + 1) cv).cells = #[.slice av (es.length + 1) cv] := rfl
 have hv1 : (Value.slice av (es.length + 1) cv).oneCell' = true := rfl
 try simp only [Act.put]
 refine pl_begin ?_
 refine pl_t 5 (v) (by rfl) (pl_one rfl rfl b1.cell Tryz.underlying34 rfl) rfl ?_
 simp only [nz]
 refine pl_t 6 (?_) (by rfl) ?_ rfl ?_
 rotate_left
 ·go_simp
  try with_reducible rfl
 simp only [nz]
 refine pl_t 7 (?_) (by rfl) ?_ rfl ?_
 rotate_left
 ·go_simp
  try with_reducible rfl
 simp only [nz]
 refine pl_t 8 (.int .i64 x.e) (by rfl) (pl_one rfl rfl he Tryz.underlying3 rfl) rfl ?_
 simp only [nz]
 refine pl_run (d := some 9) (v := .slice (some ⟨W1.heap.size, 0, none⟩) 1 1) (w' := W1.alloc (.cells #[.int .i64 x.e] 3)) (by rfl) (ex_bsi rfl rfl (run_bsi x.e _)) rfl ?_
 simp only [nz]
 refine pl_run (d := some 10) (v := (.slice av (es.length + 1) cv)) (w' := w5) (by rfl) (exec_append1 rfl rfl rfl hrun) rfl ?_
 simp only [nz]
 refine pl_store (w' := w5.setCells L 0 [.slice av (es.length + 1) cv]) (by rfl) (ex_put1 rfl rfl rfl (Boxed.there1 a1) (by decide) iszIs hvc hv1) rfl ?_
 refine pl_nil ?_
 go_wp2_with fail
 go_end0
 refine ⟨rfl, ⟨_, a2, ?_⟩, ?_, ?_, by omega⟩
 ·rw [sets_one]
  simpa using a3
 ·exact hbl.trans ((hB1.mono (by omega)).trans a5)
 ·have := a5.size
  rw [sets_one]
  omega
theorem JL.at {w W : World} {L R B b n : Nat} {N : Int} {m : Int → Option Mk} {k : Nat} (h : JL w L R m k W) (hw : MkAt w B b n N m) (hL : w.heap.size = L) : MkAt W B b n N m := hw.below (by rw [hL]; exact h.2.1)
theorem JL.below {w W W' : World} {L R : Nat} {m : Int → Option Mk} {k : Nat} (h : JL w L R m k W) (hb : Below W.heap.size W W') : JL w L R m k W' := by
 obtain ⟨⟨v, h1, h2⟩, h3, h4, h5⟩ := h
 exact ⟨⟨v, boxed_below h1 hb, ownsRow_below h2 hb⟩, h3.trans (hb.mono (by have := h1.lt; omega)), Nat.le_trans h4 hb.size, h5⟩
theorem own_rowI {W : World} {R : Nat} {a : Option Addr} {cap : Nat} {zs : List Int} (h : W.ownsRow R 3 1 (.slice a zs.length cap) zs.length (zs.map (Value.int .i64))) (hm : zs.length ≤ 1000000) : Nq.RowI W a zs := by
 refine ⟨by unfold maxLen; omega, ?_⟩
 rcases h.2 with ⟨e, h0⟩ | ⟨g, cap', cur, e, hb, hg, hn, hcm, hcs, ht⟩
 ·exact .inl (List.eq_nil_of_length_eq_zero h0)
 ·injection e with e1 e2 e3
  subst e1
  refine .inr ⟨g, 0, rfl, (Array.getElem?_eq_some_iff.1 hg).1, fun j hj => ?_⟩
  have := h.cells (g := g) rfl j (.int .i64 (zs[j]?.getD 0)) (by rw [List.getElem?_map, List.getElem?_eq_getElem hj]; rfl)
  rwa [Addr.add_mid] at this
theorem enters21 : ∀ args w, (callFunc 64 args).run Tryz.prog w = .ok (.enter 64 args) w := enters_of Tryz.func64 (by kernel_rfl) rfl
def lastP (N : Int) (m : Int → Option Mk) (need : Int) : Int := Nq.nth (eps m N.toNat) need
set_option maxHeartbeats 2000000 in
theorem last_any (B b n : Nat) (N : Int) (m : Int → Option Mk) (need : Int) (w : World) (h : MkAt w B b n N m) : Calls Tryz.prog 24 #[.pointer (some ⟨B, 0, none⟩), .int .i64 need] w fun e w' => e = .returned (.int .i64 (lastP N m need)) ∧ Below w.heap.size w w' := by
 have hN := h.good
 have hb0 := Boxed.new w 34 (.slice none 0 0)
 have hB0 : Below w.heap.size w (w.alloc (.cells #[.slice none 0 0] 34)) := (Below.refl _ _).alloc (Nat.le_refl _) _
 have hs0 : (w.alloc (.cells #[.slice none 0 0] 34)).heap.size = w.heap.size + 1 := by simp
 have hJ0 : JL w w.heap.size (w.heap.size + 1) m 0 (w.alloc (.cells #[.slice none 0 0] 34)) := ⟨⟨_, hb0, by simp [eps], .inl ⟨rfl, rfl⟩⟩, hB0, by omega, by omega⟩
 have cE := each_any B b n N m 64 enters21 #[.pointer (some ⟨w.heap.size, 0, none⟩)] (fun k W => JL w w.heap.size (w.heap.size + 1) m k W) (fun k W q => q.at h rfl) (fun k W W' q hb => q.below hb)
  (fun k x W hk q hm => by
   have hx := h.ok k x hm
   exact last1_any w w.heap.size (w.heap.size + 1) (by omega) m k (by omega) x hx.1 hm W q)
  (fun k W hk q hm => by
   obtain ⟨q1, q2, q3, q4⟩ := q
   refine ⟨?_, q2, q3, by omega⟩
   have : eps m (k + 1) = eps m k := by rw [eps, hm]; simp
   rw [this]
   exact q1) _ hJ0
 have hel := eps_len m N.toNat
 unfold lastP
 clear hb0 hB0 hs0 hJ0
 go_enter Tryz.func24, Tryz.ntmps24
 go_wp2_with fail
 refine cE.mono ?_
 rintro _ w2 ⟨rfl, ⟨⟨v, hb2, hrow2⟩, hbl2, hR2, -⟩⟩
 clear cE
 obtain ⟨av, cv, rfl⟩ := ownsRow_slice hrow2
 have c2 := hb2.cell
 have cN := Nq.nth_any av cv (eps m N.toNat) need w2 (own_rowI hrow2 (by omega)) (by omega)
 go_wp2_with fail
 refine cN.mono ?_
 rintro _ w3 ⟨rfl, hB3⟩
 clear cN
 go_wp2_with fail
 go_ret
 exact ⟨rfl, hbl2.trans (hB3.mono (by omega))⟩
def flatS (rs : List Sg) : List Value := rs.flatMap Sg.cells
theorem flatS_length {rs : List Sg} (h : ∀ r ∈ rs, r.ok) : (flatS rs).length = rs.length * 17 := by
  induction rs with
  | nil => rfl
  | cons r rs ih =>
    have h1 := (h r (by simp)).length
    have h2 := ih (fun x hx => h x (by simp [hx]))
    simp only [flatS, List.flatMap_cons, List.length_append, List.length_cons] at *
    omega
theorem flatS_append (a b : List Sg) : flatS (a ++ b) = flatS a ++ flatS b := by simp [flatS]
def SigsAt (w : World) (a : Option Addr) (rs : List Sg) : Prop :=
 rs.length ≤ maxLen ∧ (∀ r ∈ rs, r.ok) ∧ (rs = [] ∨ ∃ b off, a = some ⟨b, off, none⟩ ∧ b < w.heap.size ∧ w.rangeAt b off (flatS rs))
theorem flatS_split (rs : List Sg) (i : Nat) (hi : i < rs.length) : flatS rs = flatS (rs.take i) ++ rs[i].cells ++ flatS (rs.drop (i + 1)) := by
 have e : rs.take i ++ (rs[i] :: rs.drop (i + 1)) = rs := by rw [← List.drop_eq_getElem_cons hi, List.take_append_drop]
 have e2 := congrArg flatS e
 rw [← e2]
 simp only [flatS, List.flatMap_append, List.flatMap_cons, List.append_assoc]
theorem SigsAt.elem {w : World} {a : Option Addr} {rs : List Sg} (h : SigsAt w a rs) (i : Nat) (hi : i < rs.length) : ∃ b off, a = some ⟨b, off, none⟩ ∧ b < w.heap.size ∧ w.rangeAt b (off + i * 17) rs[i].cells := by
 rcases h.2.2 with h0 | ⟨b, off, rfl, h1, h2⟩
 ·subst h0; simp at hi
 ·refine ⟨b, off, rfl, h1, ?_⟩
  rw [flatS_split rs i hi] at h2
  have h3 := range_part h2
  rwa [flatS_length (fun r hr => h.2.1 r (List.mem_of_mem_take hr)), List.length_take, Nat.min_eq_left (by omega)] at h3
theorem SigsAt.none {w : World} {a : Option Addr} : SigsAt w a [] := ⟨by simp, by simp, .inl rfl⟩
theorem infoSg : (Tryz.prog.info? 56).map (fun i => (i.zero, i.size, i.bytes)) = some (some (.agg ([Value.int .i64 0] ++ v8 (List.replicate 16 0)).toArray), 17, 24) := by kernel_rfl
theorem bs_sign {u : List Value} (hu : u.length = 17) (w : World) : (Instr.buildSlice 24 1 #[(0, .agg u.toArray)]).run Tryz.prog w = .ok (.slice (some ⟨w.heap.size, 0, none⟩) 1 1) (w.alloc (.cells u.toArray 56)) := by
 obtain ⟨i, hi, hz, hs, hb⟩ := info_parts infoSg
 exact run_bs1 24 56 i _ u Tryz.underlying24 hi hz (by rw [hs, hu]) (by omega) (by omega) w
theorem one_sign (w : World) (u : List Value) (hu : u.length = 17) (h1 : ∀ x ∈ u, x.oneCell' = true) : Src Tryz.prog 17 24 (.slice (some ⟨w.heap.size, 0, none⟩) 1 1) 1 u (w.alloc (.cells u.toArray 56)) :=
 Src.ofSlice _ Tryz.underlying24 ⟨w.heap.size, 0, none⟩ 1 1 u (by omega) (fun j v hv => by
  rw [Addr.add_mid]
  have := range_new w u.toArray 56 j v (by simpa using hv)
  exact this) h1
theorem own_sigs {w : World} {B : Nat} {v : Value} {rs : List Sg} (h : w.ownsRow B 56 17 v rs.length (flatS rs)) (ho : ∀ r ∈ rs, r.ok) (hm : rs.length ≤ 1000000) :
  ∃ a cap, v = .slice a rs.length cap ∧ rs.length ≤ cap ∧ cap ≤ maxLen ∧ SigsAt w a rs ∧ ∀ x, a = some x → B ≤ x.block := by
 have hl := h.1
 have hml : rs.length ≤ maxLen := by unfold maxLen; omega
 rcases h.2 with ⟨rfl, h0⟩ | ⟨g, cap, cur, rfl, hb, hg, hn, hcm, hcs, ht⟩
 ·have : rs = [] := List.eq_nil_of_length_eq_zero h0
  subst this
  exact ⟨none, 0, rfl, by simp, by simp, SigsAt.none, fun x hx => by cases hx⟩
 ·refine ⟨_, cap, rfl, hn, hcm, ⟨hml, ho, .inr ⟨g, 0, rfl, (Array.getElem?_eq_some_iff.1 hg).1, fun j u hu => ?_⟩⟩, fun x hx => by cases hx; exact hb⟩
  have := h.cells (g := g) rfl j u hu
  rwa [Addr.add_mid] at this
theorem SigsAt.at {w w' : World} {a : Option Addr} {rs : List Sg} (h : SigsAt w a rs) (hs : w.heap.size ≤ w'.heap.size) (hb : ∀ x, a = some x → w'.heap[x.block]? = w.heap[x.block]?) : SigsAt w' a rs := by
 refine ⟨h.1, h.2.1, ?_⟩
 rcases h.2.2 with h | ⟨b, off, rfl, h1, h2⟩
 ·exact Or.inl h
 ·exact Or.inr ⟨b, off, rfl, Nat.lt_of_lt_of_le h1 hs, range_at h2 (hb _ rfl)⟩
def sgs (m : Int → Option Mk) (e : Int) (d : List Int) : Nat → List Sg
  | 0 => []
  | k + 1 => sgs m e d k ++ (match m k with | none => [] | some x => if x.e = e ∧ x.d = d then [⟨k, x.t⟩] else [])
theorem sgs_len (m : Int → Option Mk) (e : Int) (d : List Int) : ∀ k, (sgs m e d k).length ≤ k
  | 0 => by simp [sgs]
  | k + 1 => by
    have := sgs_len m e d k
    unfold sgs
    split
    · simp; omega
    · split <;> simp <;> omega
theorem sgs_ok {w : World} {B b n : Nat} {N : Int} {m : Int → Option Mk} (h : MkAt w B b n N m) (e : Int) (d : List Int) : ∀ k, k ≤ 64 → ∀ r ∈ sgs m e d k, r.ok
  | 0, _ => by simp [sgs]
  | k + 1, hk => fun r hr => by
    unfold sgs at hr
    rcases List.mem_append.1 hr with hr | hr
    · exact sgs_ok h e d k (by omega) r hr
    · split at hr
      · simp at hr
      · rename_i x hm
        split at hr
        · obtain rfl := List.mem_singleton.1 hr
          have := (h.ok k x hm).1
          exact ⟨this.tl, this.tb, by unfold I64; constructor <;> simp <;> omega⟩
        · simp at hr
def JS (w : World) (D L C R : Nat) (m : Int → Option Mk) (e : Int) (d : List Int) (k : Nat) (W : World) : Prop :=
 (∃ v, Boxed W L 24 v ∧ W.ownsRow R 56 17 v (sgs m e d k).length (flatS (sgs m e d k))) ∧ W.rangeAt C 0 (mkC e d) ∧ Below D w W ∧ R ≤ W.heap.size ∧ k ≤ 64
theorem JS.below {w W W' : World} {D L C R : Nat} {m : Int → Option Mk} {e : Int} {d : List Int} {k : Nat} (h : JS w D L C R m e d k W) (hC : C < R) (hD : D < R) (hb : Below W.heap.size W W') : JS w D L C R m e d k W' := by
 obtain ⟨⟨v, h1, h2⟩, h3, h4, h5, h6⟩ := h
 exact ⟨⟨v, boxed_below h1 hb, ownsRow_below h2 hb⟩, range_below h3 hb (by omega), h4.trans (hb.mono (by omega)), Nat.le_trans h5 hb.size, h6⟩
set_option maxRecDepth 100000 in
set_option maxHeartbeats 2000000 in
theorem signs1_no (w : World) (D L C R : Nat) (hDL : D < L) (hLC : L < C) (hCR : C < R) (m : Int → Option Mk) (e : Int) (d : List Int) (hd : d.length = 32) (k : Nat) (hk : k < 64) (x : Mk) (hx : x.ok) (hm : m k = some x) (hq : ¬ (x.e = e ∧ x.d = d)) (W : World) (h : JS w D L C R m e d k W) : Calls Tryz.prog 62 #[.int .i64 (k : Int), .agg x.cells.toArray, .pointer (some ⟨C, 0, none⟩), .pointer (some ⟨L, 0, none⟩)] W fun e' W' => e' = .returned (.tuple #[]) ∧ JS w D L C R m e d (k + 1) W' := by
 have hen : sgs m e d (k + 1) = sgs m e d k := by rw [sgs, hm]; simp only; rw [if_neg hq, List.append_nil]
 obtain ⟨⟨v, hb, hrow⟩, hrC, hbl, hR, -⟩ := h
 have hel := sgs_len m e d k
 have hLW := hb.lt
 have hcmp := fun w' => eqM x.e e x.d d hx.dl hd w'
 obtain ⟨xe, xd, xt⟩ := x
 simp only at *
 obtain ⟨y, hy⟩ : ∃ u, Hid (mkC xe xd = u) := ⟨_, hide rfl⟩
 obtain ⟨t, ht⟩ : ∃ u, Hid (v8 xt = u) := ⟨_, hide rfl⟩
 obtain ⟨c, hc⟩ : ∃ u, Hid (mkC e d = u) := ⟨_, hide rfl⟩
 have hy33 : y.length = 33 := by rw [← hy.out]; exact mkC_len _ hx.dl
 have ht16 : t.length = 16 := by rw [← ht.out, v8_length]; exact hx.tl
 have hc33 : c.length = 33 := by rw [← hc.out]; exact mkC_len _ hd
 have hiy : (Tryz.prog.info? 120).map (·.size) = some y.length := by rw [hy33]; exact iszM
 have hic : (Tryz.prog.info? 120).map (·.size) = some c.length := by rw [hc33]; exact iszM
 have hit : (Tryz.prog.info? 51).map (·.size) = some t.length := by rw [ht16]; exact iszT
 simp only [hy.out, hc.out] at hcmp
 unfold Mk.cells JS
 simp only [hy.out, ht.out, hc.out] at hrC ⊢
 have hcb : ((xe == e) && (xd == d)) = false := by simpa using hq
 simp only [hcb] at hcmp
 rw [hen]
 clear hq hcb hen hm
 go_enter Tryz.func62, Tryz.ntmps62
 go_upto_region 1 with fail
 have hB1 : Below W.heap.size W (W.alloc (.cells (y ++ t).toArray 122)) := (Below.refl _ _).alloc (Nat.le_refl _) _
 have b1 := boxed_below hb hB1
 have o1 := ownsRow_below hrow hB1
 have hC1 := range_below hrC hB1 (by omega)
 have hZ : (W.alloc (.cells (y ++ t).toArray 122)).rangeAt W.heap.size 0 (y ++ t) := by simpa using range_new W (y ++ t).toArray 122
 generalize W.alloc (.cells (y ++ t).toArray 122) = W1 at *
 have hs1 := hB1.size
 have hZm := range_left hZ
 have hZt := range_right hZ
 rw [hy33, Nat.zero_add] at hZt
 try simp only [Act.put]
 refine pl_begin ?_
 refine pl_t 6 (?_) (by rfl) ?_ rfl ?_
 rotate_left
 ·go_simp
  try with_reducible rfl
 simp only [nz]
 refine pl_t 7 (.agg y.toArray) (by rfl) (ex_mid rfl rfl hZm Tryz.underlying120 rfl hiy) rfl ?_
 simp only [nz]
 refine pl_t 8 (.agg c.toArray) (by rfl) (ex_mid rfl rfl hC1 Tryz.underlying120 rfl hic) rfl ?_
 simp only [nz]
 refine pl_t 9 (.bool false) (by rfl) (ex_bin rfl rfl rfl (by kernel_rfl) (hcmp W1)) rfl ?_
 simp only [nz]
 refine pl_nil ?_
 go_wp2_with fail
 go_end0
 exact ⟨rfl, ⟨v, b1, o1⟩, hC1, hbl.trans (hB1.mono (by omega)), by omega, by omega⟩
set_option maxRecDepth 100000 in
set_option maxHeartbeats 2000000 in
theorem signs1_yes (w : World) (D L C R : Nat) (hDL : D < L) (hLC : L < C) (hCR : C < R) (m : Int → Option Mk) (e : Int) (d : List Int) (hd : d.length = 32) (k : Nat) (hk : k < 64) (x : Mk) (hx : x.ok) (hm : m k = some x) (hq : x.e = e ∧ x.d = d) (W : World) (h : JS w D L C R m e d k W) : Calls Tryz.prog 62 #[.int .i64 (k : Int), .agg x.cells.toArray, .pointer (some ⟨C, 0, none⟩), .pointer (some ⟨L, 0, none⟩)] W fun e' W' => e' = .returned (.tuple #[]) ∧ JS w D L C R m e d (k + 1) W' := by
 have hen : sgs m e d (k + 1) = sgs m e d k ++ [⟨k, x.t⟩] := by rw [sgs, hm]; simp only; rw [if_pos hq]
 have hgc : (Sg.mk (k : Int) x.t).cells = Value.int .i64 (k : Int) :: v8 x.t := rfl
 obtain ⟨⟨v, hb, hrow⟩, hrC, hbl, hR, -⟩ := h
 have hel := sgs_len m e d k
 have hLW := hb.lt
 have hcmp := fun w' => eqM x.e e x.d d hx.dl hd w'
 obtain ⟨xe, xd, xt⟩ := x
 simp only at *
 obtain ⟨y, hy⟩ : ∃ u, Hid (mkC xe xd = u) := ⟨_, hide rfl⟩
 obtain ⟨t, ht⟩ : ∃ u, Hid (v8 xt = u) := ⟨_, hide rfl⟩
 obtain ⟨c, hc⟩ : ∃ u, Hid (mkC e d = u) := ⟨_, hide rfl⟩
 have hy33 : y.length = 33 := by rw [← hy.out]; exact mkC_len _ hx.dl
 have ht16 : t.length = 16 := by rw [← ht.out, v8_length]; exact hx.tl
 have hc33 : c.length = 33 := by rw [← hc.out]; exact mkC_len _ hd
 have hiy : (Tryz.prog.info? 120).map (·.size) = some y.length := by rw [hy33]; exact iszM
 have hic : (Tryz.prog.info? 120).map (·.size) = some c.length := by rw [hc33]; exact iszM
 have hit : (Tryz.prog.info? 51).map (·.size) = some t.length := by rw [ht16]; exact iszT
 simp only [hy.out, hc.out] at hcmp
 unfold Mk.cells JS
 simp only [hy.out, ht.out, hc.out] at hrC ⊢
 have hcb : ((xe == e) && (xd == d)) = true := by simpa using hq
 simp only [hcb] at hcmp
 rw [hen, flatS_append, show flatS [(⟨k, xt⟩ : Sg)] = (Sg.mk (k : Int) xt).cells by simp [flatS]]
 obtain ⟨g, hg⟩ : ∃ u, Hid ((Sg.mk (k : Int) xt).cells = u) := ⟨_, hide rfl⟩
 have hg17 : g.length = 17 := by rw [← hg.out, hgc, ht.out, List.length_cons, ht16]
 have hg1 : ∀ v ∈ g, v.oneCell' = true := by rw [← hg.out]; exact Sg.one _
 have hbg : ∀ w', (Instr.build 56 #[(0, .int .i64 (k : Int)), (1, .agg t.toArray)]).run Tryz.prog w' = .ok (.agg g.toArray) w' := fun w' => by rw [← hg.out, hgc, ht.out]; exact build_sign _ t ht16 w'
 rw [hg.out]
 generalize sgs m e d k = rs at *
 clear hq hcb hen hm hgc hg
 go_enter Tryz.func62, Tryz.ntmps62
 go_upto_region 1 with fail
 have hB1 : Below W.heap.size W (W.alloc (.cells (y ++ t).toArray 122)) := (Below.refl _ _).alloc (Nat.le_refl _) _
 have b1 := boxed_below hb hB1
 have o1 := ownsRow_below hrow hB1
 have hC1 := range_below hrC hB1 (by omega)
 have hZ : (W.alloc (.cells (y ++ t).toArray 122)).rangeAt W.heap.size 0 (y ++ t) := by simpa using range_new W (y ++ t).toArray 122
 generalize W.alloc (.cells (y ++ t).toArray 122) = W1 at *
 have hs1 := hB1.size
 have hZm := range_left hZ
 have hZt := range_right hZ
 rw [hy33, Nat.zero_add] at hZt
 obtain ⟨i0, hi, hz, hs, hby⟩ := info_parts infoSg
 have hb2 : Below W1.heap.size W1 (W1.alloc (.cells g.toArray 56)) := (Below.refl _ _).alloc (Nat.le_refl _) _
 obtain ⟨v', w5, hrun, hown', hgr, -⟩ := run_append_own_src2 (P := Tryz.prog) (W1.alloc (.cells g.toArray 56)) R 24 24 24 56 i0 _ 17 24 Tryz.underlying24 hi hz hs hby rfl v rs.length (flatS rs) (ownsRow_below o1 hb2) _ 1 g (one_sign W1 g hg17 hg1) (by unfold maxLen; omega) (by omega) (by simp; omega)
 obtain ⟨a1, a2, a3, -, a5⟩ := appended_box (v' := v') b1 (by decide) o1 (by omega) (by omega) hown' hgr
 have hCk := appended_keeps (v' := v') o1 hgr hCR (show C ≠ L by omega) (by omega)
 obtain ⟨av, cv, rfl⟩ := ownsRow_slice hown'
 have hvc : (Value.slice av (rs.length + 1) cv).cells = #[.slice av (rs.length + 1) cv] := rfl
 have hv1 : (Value.slice av (rs.length + 1) cv).oneCell' = true := rfl
 try simp only [Act.put]
 refine pl_begin ?_
 refine pl_t 6 (?_) (by rfl) ?_ rfl ?_
 rotate_left
 ·go_simp
  try with_reducible rfl
 simp only [nz]
 refine pl_t 7 (.agg y.toArray) (by rfl) (ex_mid rfl rfl hZm Tryz.underlying120 rfl hiy) rfl ?_
 simp only [nz]
 refine pl_t 8 (.agg c.toArray) (by rfl) (ex_mid rfl rfl hC1 Tryz.underlying120 rfl hic) rfl ?_
 simp only [nz]
 refine pl_t 9 (.bool true) (by rfl) (ex_bin rfl rfl rfl (by kernel_rfl) (hcmp W1)) rfl ?_
 simp only [nz]
 refine pl_nil ?_
 go_upto_region 2 with fail
 try simp only [Act.put]
 refine pl_begin ?_
 refine pl_t 10 (v) (by rfl) (pl_one rfl rfl b1.cell Tryz.underlying24 rfl) rfl ?_
 simp only [nz]
 refine pl_t 11 (?_) (by rfl) ?_ rfl ?_
 rotate_left
 ·go_simp
  try with_reducible rfl
 simp only [nz]
 refine pl_t 12 (?_) (by rfl) ?_ rfl ?_
 rotate_left
 ·go_simp
  try with_reducible rfl
 simp only [nz]
 refine pl_t 13 (.agg t.toArray) (by rfl) (ex_mid rfl rfl hZt Tryz.underlying51 rfl hit) rfl ?_
 simp only [nz]
 refine pl_t 14 (.agg g.toArray) (by rfl) (ex_build rfl rfl (hbg W1)) rfl ?_
 simp only [nz]
 refine pl_run (d := some 15) (v := .slice (some ⟨W1.heap.size, 0, none⟩) 1 1) (w' := W1.alloc (.cells g.toArray 56)) (by rfl) (exec_bs1 rfl rfl (bs_sign hg17 _)) rfl ?_
 simp only [nz]
 refine pl_run (d := some 16) (v := (.slice av (rs.length + 1) cv)) (w' := w5) (by rfl) (exec_append1 rfl rfl rfl hrun) rfl ?_
 simp only [nz]
 refine pl_store (w' := w5.setCells L 0 [.slice av (rs.length + 1) cv]) (by rfl) (ex_put1 rfl rfl rfl (Boxed.there1 a1) (by decide) iszSs hvc hv1) rfl ?_
 refine pl_nil ?_
 go_wp2_with fail
 go_end0
 rw [sets_one]
 have hs5 := a5.size
 refine ⟨rfl, ⟨_, a2, ?_⟩, range_at hC1 hCk, hbl.trans ((hB1.mono (by omega)).trans (a5.mono (by omega))), by omega, by omega⟩
 simpa using a3
set_option maxHeartbeats 400000 in
theorem clip_any (a : Option Addr) (n c : Nat) (hn : n ≤ c) (hc : c ≤ maxLen) (w : World) : Calls Tryz.prog 63 #[.slice a n c] w fun e w' => e = .returned (.slice a n n) ∧ w' = w := by
 go_enter Tryz.func63, Tryz.ntmps63
 go_wp2
 go_ret
 exact ⟨rfl, rfl⟩
def signsP (N : Int) (m : Int → Option Mk) (e : Int) (d : List Int) (need : Int) : List Sg := if need < 1 ∨ ((sgs m e d N.toNat).length : Int) < need then [] else (sgs m e d N.toNat).take need.toNat
def TellS (w : World) (rs : List Sg) (e' : Ending) (w' : World) : Prop := ∃ a cap, e' = .returned (.slice a rs.length cap) ∧ SigsAt w' a rs ∧ rs.length ≤ cap ∧ Below w.heap.size w w'
theorem enters24 : ∀ args w, (callFunc 62 args).run Tryz.prog w = .ok (.enter 62 args) w := enters_of Tryz.func62 (by kernel_rfl) rfl
theorem SigsAt.take {w : World} {a : Option Addr} {rs : List Sg} (h : SigsAt w a rs) (k : Nat) : SigsAt w a (rs.take k) := by
 refine ⟨Nat.le_trans (by rw [List.length_take]; omega) h.1, fun r hr => h.2.1 r (List.mem_of_mem_take hr), ?_⟩
 rcases h.2.2 with h0 | ⟨b, off, rfl, h1, h2⟩
 ·exact .inl (by rw [h0]; simp)
 ·refine .inr ⟨b, off, rfl, h1, ?_⟩
  rw [← List.take_append_drop k rs, flatS_append] at h2
  exact range_left h2
set_option maxRecDepth 100000 in
set_option maxHeartbeats 2000000 in
theorem signs_any (e : Int) (d : List Int) (hd : d.length = 32) (need : Int) (B b n : Nat) (N : Int) (m : Int → Option Mk) (w : World) (h : MkAt w B b n N m) : Calls Tryz.prog 23 #[.pointer (some ⟨B, 0, none⟩), .int .i64 e, .agg (v8 d).toArray, .int .i64 need] w fun e' w' => TellS w (signsP N m e d need) e' w' := by
 have hN := h.good
 have hlen := sgs_len m e d N.toNat
 have hok := sgs_ok h e d N.toNat (by omega)
 have hbm := fun w' => build_mark e (v8 d) (by rw [v8_length, hd]) w'
 obtain ⟨u, hu⟩ : ∃ u, Hid (v8 d = u) := ⟨_, hide rfl⟩
 obtain ⟨c, hc⟩ : ∃ u, Hid (mkC e d = u) := ⟨_, hide rfl⟩
 have hc33 : c.length = 33 := by rw [← hc.out]; exact mkC_len _ hd
 have hu32 : u.length = 32 := by rw [← hu.out, v8_length]; exact hd
 have hc1 : ∀ v ∈ c, v.oneCell' = true := by rw [← hc.out]; exact mkC_one _ _
 have hiD : (Tryz.prog.info? 32).map (·.size) = some u.length := by rw [hu32]; exact iszD
 have hbm : ∀ w' : World, (Instr.build 120 #[(0, .int .i64 e), (1, .agg u.toArray)]).run Tryz.prog w' = .ok (.agg c.toArray) w' := fun w' => by rw [← hc.out, ← hu.out]; exact hbm w'
 rw [hu.out]
 have hzm := zeroMk
 obtain ⟨zm, hzz⟩ : ∃ z, Hid (([Value.int .i64 0] ++ v8 (List.replicate 32 0)) = z) := ⟨_, hide rfl⟩
 have hzm33 : zm.length = 33 := by rw [← hzz.out]; rfl
 simp only [hzz.out] at hzm
 clear hzz hu
 go_enter Tryz.func23, Tryz.ntmps23
 go_upto_region 2 with fail
 have hB1 : Below w.heap.size w (w.alloc (.cells u.toArray 32)) := (Below.refl _ _).alloc (Nat.le_refl _) _
 have hR1 : (w.alloc (.cells u.toArray 32)).rangeAt w.heap.size 0 u := by simpa using range_new w u.toArray 32
 have hs1 : (w.alloc (.cells u.toArray 32)).heap.size = w.heap.size + 1 := by simp
 obtain ⟨w1, hw1⟩ : ∃ w1, w.alloc (.cells u.toArray 32) = w1 := ⟨_, rfl⟩
 rw [hw1] at hB1 hR1 hs1 ⊢
 clear hw1
 have hB2 : Below w1.heap.size w1 (w1.alloc (.cells #[.slice none 0 0] 24)) := (Below.refl _ _).alloc (Nat.le_refl _) _
 have b2 := Boxed.new w1 24 (.slice none 0 0)
 have hs2 : (w1.alloc (.cells #[.slice none 0 0] 24)).heap.size = w1.heap.size + 1 := by simp
 obtain ⟨w2, hw2⟩ : ∃ w2, w1.alloc (.cells #[.slice none 0 0] 24) = w2 := ⟨_, rfl⟩
 rw [hw2] at hB2 b2 hs2 ⊢
 clear hw2
 have hRd := range_below hR1 hB2 (by omega)
 try simp only [Act.put]
 refine pl_begin ?_
 refine pl_t 11 (?_) (by rfl) ?_ rfl ?_
 rotate_left
 ·go_simp
  try with_reducible rfl
 simp only [nz]
 refine pl_t 12 (.agg u.toArray) (by rfl) (ex_mid rfl rfl hRd Tryz.underlying32 rfl hiD) rfl ?_
 simp only [nz]
 refine pl_t 13 (.agg c.toArray) (by rfl) (ex_build rfl rfl (hbm w2)) rfl ?_
 simp only [nz]
 refine pl_run (d := some 10) (v := .pointer (some ⟨w2.heap.size, 0, none⟩)) (w' := w2.alloc (.cells zm.toArray 120)) (by rfl) (ex_alloc rfl (hzm _)) rfl ?_
 simp only [nz]
 refine pl_store (w' := (w2.alloc (.cells zm.toArray 120)).setCells w2.heap.size 0 c) (by rfl) (ex_put (cs := c.toArray) rfl rfl rfl (there_newN _ _ _ (by simp [hzm33, hc33])) (by simpa [hc33] using iszM) (all_one hc1)) rfl ?_
 refine pl_nil ?_
 obtain ⟨hF1, hF2, hF3, hF4⟩ := fresh_store w2 zm.toArray 120 c (by simp [hzm33, hc33])
 obtain ⟨w3, hw3⟩ : ∃ w3, (w2.alloc (.cells zm.toArray 120)).setCells w2.heap.size 0 c = w3 := ⟨_, rfl⟩
 rw [hw3] at hF1 hF2 hF3 ⊢
 clear hw3 hF4 hRd hR1
 have b3 := boxed_below b2 hF2
 have hbl3 : Below w.heap.size w w3 := hB1.trans ((hB2.mono (by omega)).trans (hF2.mono (by omega)))
 obtain ⟨D, hDe⟩ : ∃ D, Hid (w.heap.size = D) := ⟨_, hide rfl⟩
 obtain ⟨L, hLe⟩ : ∃ D, Hid (w.heap.size + 1 = D) := ⟨_, hide rfl⟩
 obtain ⟨C, hCe⟩ : ∃ D, Hid (w2.heap.size = D) := ⟨_, hide rfl⟩
 have hDL : D < L := by rw [← hDe.out, ← hLe.out]; omega
 have hLC : L < C := by rw [← hLe.out, ← hCe.out]; omega
 have hC3 : C < w3.heap.size := by rw [← hCe.out]; omega
 rw [hDe.out] at hbl3
 rw [hs1, hLe.out] at b3
 rw [hCe.out] at hF1
 rw [hLe.out, hDe.out, hCe.out]
 clear hF2 hF3 hB1 hB2 b2 hs1 hs2
 have hJ0 : JS w D L C w3.heap.size m e d 0 w3 := ⟨⟨_, b3, by simp [sgs, flatS], .inl ⟨rfl, rfl⟩⟩, by rw [hc.out]; exact hF1, hbl3, Nat.le_refl _, by omega⟩
 have cE := each_any B b n N m 62 enters24 #[.pointer (some ⟨C, 0, none⟩), .pointer (some ⟨L, 0, none⟩)] (fun k W => JS w D L C w3.heap.size m e d k W) (fun k W q => h.below (by rw [hDe.out]; exact q.2.2.1)) (fun k W W' q hb => q.below hC3 (by omega) hb)
  (fun k x W hk q hm => by
   have hx := h.ok k x hm
   by_cases hq : x.e = e ∧ x.d = d
   ·exact signs1_yes w D L C w3.heap.size hDL hLC hC3 m e d hd k (by omega) x hx.1 hm hq W q
   ·exact signs1_no w D L C w3.heap.size hDL hLC hC3 m e d hd k (by omega) x hx.1 hm hq W q)
  (fun k W hk q hm => by
   obtain ⟨q1, q2, q3, q4, q5⟩ := q
   refine ⟨?_, q2, q3, q4, by omega⟩
   have : sgs m e d (k + 1) = sgs m e d k := by rw [sgs, hm]; simp
   rw [this]
   exact q1) _ hJ0
 clear hJ0 b3 hF1 hbl3
 go_wp2_with fail
 refine cE.mono ?_
 rintro _ w4 ⟨rfl, ⟨⟨v, b4, hrow⟩, -, hbl4, hR4, -⟩⟩
 clear cE
 obtain ⟨a, cap, rfl, hcap, hcm, hsg, -⟩ := own_sigs hrow hok (by omega)
 have c4 := b4.cell
 have hbl5 : Hid (Below w.heap.size w w4) := by rw [hDe.out]; exact hbl4
 clear hrow hok hbl4 b4
 by_cases hn : need < 1
 ·have hp : Hid (signsP N m e d need = ([] : List Sg)) := hide (by unfold signsP; exact if_pos (.inl hn))
  have hE : TellS w (signsP N m e d need) (.returned (.slice none 0 0)) w4 := ⟨none, 0, by rw [hp.out]; rfl, by rw [hp.out]; exact SigsAt.none, by rw [hp.out]; exact Nat.le_refl _, hbl5.out⟩
  have HE := hide hE
  clear hE hp
  go_wp2_with fail
  go_ret
  exact HE.out
 ·by_cases hl : ((sgs m e d N.toNat).length : Int) < need
  ·have hp : Hid (signsP N m e d need = ([] : List Sg)) := hide (by unfold signsP; exact if_pos (.inr hl))
   have hE : TellS w (signsP N m e d need) (.returned (.slice none 0 0)) w4 := ⟨none, 0, by rw [hp.out]; rfl, by rw [hp.out]; exact SigsAt.none, by rw [hp.out]; exact Nat.le_refl _, hbl5.out⟩
   have HE := hide hE
   clear hE hp
   go_wp2_with fail
   go_ret
   exact HE.out
  ·obtain ⟨q, rfl⟩ := Int.eq_ofNat_of_zero_le (show 0 ≤ need by omega)
   have hq1 : 1 ≤ q := by omega
   have hql : q ≤ (sgs m e d N.toNat).length := by omega
   have hqc : q ≤ cap := by omega
   have hp : Hid (signsP N m e d (q : Int) = (sgs m e d N.toNat).take q) := hide (by unfold signsP; rw [if_neg (by omega)]; rfl)
   have hlt : ((sgs m e d N.toNat).take q).length = q := by rw [List.length_take]; omega
   have hE : TellS w (signsP N m e d (q : Int)) (.returned (.slice a q q)) w4 := ⟨a, q, by rw [hp.out, hlt], by rw [hp.out]; exact hsg.take q, by rw [hp.out, hlt]; exact Nat.le_refl _, hbl5.out⟩
   have HE := hide hE
   have cC := clip_any a q cap hqc hcm w4
   clear hE hp hlt hsg
   go_wp2_with fail
   refine cC.mono ?_
   rintro _ w5 ⟨rfl, hx⟩
   obtain rfl := hx.symm
   clear cC hx
   go_wp2_with fail
   go_ret
   exact HE.out
set_option linter.unusedSimpArgs false
def d7 : List Int := 7 :: List.replicate 31 0
def tg (z : Int) : List Int := z :: List.replicate 15 0
theorem d7_len : d7.length = 32 := by decide
theorem d7_b : B8 d7 := by unfold B8 d7; decide
def lx (z : Int) : Mk := ⟨1, d7, tg z⟩
theorem lx_ok (z : Int) (hz : 0 ≤ z ∧ z < 256) : (lx z).ok := ⟨(by decide : -9223372036854775808 ≤ (1 : Int) ∧ (1 : Int) ≤ 9223372036854775807), d7_len, d7_b, rfl, fun y hy => by
 rcases List.mem_cons.1 hy with rfl | hy
 ·exact hz
 ·obtain ⟨_, rfl⟩ := List.mem_replicate.1 hy
  decide⟩
def m1 : Int → Option Mk := putM (fun _ => none) 3 (lx 3)
def m2 : Int → Option Mk := putM m1 0 (lx 0)
def m3 : Int → Option Mk := putM m2 1 (lx 1)
def lvM : Nat → Int → Option Mk
  | 0 => fun _ => none
  | 1 => m1
  | 2 => m2
  | _ => m3
theorem la0 : addE 4 (fun _ => none) 3 (lx 3) = 0 := by decide
theorem la1 : addE 4 m1 0 (lx 0) = 0 := by decide
theorem la2 : addE 4 m2 1 (lx 1) = 0 := by decide
theorem lm0 : addM 4 (fun _ => none) 3 (lx 3) = m1 := by unfold addM; rw [if_neg (by decide), if_pos (by decide)]; rfl
theorem lm1 : addM 4 m1 0 (lx 0) = m2 := by unfold addM; rw [if_neg (by decide), if_pos (by decide)]; rfl
theorem lm2 : addM 4 m2 1 (lx 1) = m3 := by unfold addM; rw [if_neg (by decide), if_pos (by decide)]; rfl
theorem ls3 : signsP 4 m3 1 d7 3 = [⟨0, tg 0⟩, ⟨1, tg 1⟩, ⟨3, tg 3⟩] := by decide
theorem ll3 : lastP 4 m3 3 = 1 := by decide
theorem ll4 : lastP 4 m3 4 = 0 := by decide
set_option maxRecDepth 100000 in
theorem build_d7 (w : World) : (Instr.build 32 #[(0, .int .u8 7)]).run Tryz.prog w = .ok (.agg (v8 d7).toArray) w := by kernel_rfl
set_option maxRecDepth 100000 in
theorem build_tg (z : Int) (w : World) : (Instr.build 51 #[(0, .int .u8 z)]).run Tryz.prog w = .ok (.agg (v8 (tg z)).toArray) w := by kernel_rfl
theorem MkAt.off {w w' : World} {B b n : Nat} {N : Int} {m : Int → Option Mk} {F : Nat → Prop} (h : MkAt w B b n N m) (hO : Off F w w') (h1 : ¬ F B) (h2 : ¬ F b) : MkAt w' B b n N m := h.at hO.size (hO.2 _ h.lt h1) (hO.2 _ h.mp.lt h2)
def l301 : List Value := [.int .i64 3, .int .i64 0, .int .i64 1]
theorem run_bs3 (w : World) : (Instr.buildSlice 34 3 #[(0, .int .i64 3), (1, .int .i64 0), (2, .int .i64 1)]).run Tryz.prog w = .ok (.slice (some ⟨w.heap.size, 0, none⟩) 3 3) (w.alloc (.cells l301.toArray 3)) := by kernel_rfl
theorem ex_bs3 {P : Program} {o : Oper} {a : Act} {w w' : World} {t : TypeId} {x y z : Operand} {u v q r : Value} (ho : o.op = .buildSlice t 3 #[(0, x), (1, y), (2, z)]) (hx : a.eval x = u) (hy : a.eval y = v) (hz : a.eval z = q) (hr : (Instr.buildSlice t 3 #[(0, u), (1, v), (2, q)]).run P w = .ok r w') : (execOp a.eval o).run P w = .ok (.value r) w' := by
 unfold execOp
 simp [ho, hx, hy, hz, hr]
def RL (w : World) (B b S : Nat) (j : Nat) (W : World) : Prop := MkAt W B b j 4 (lvM j) ∧ W.rangeAt S 0 l301 ∧ Below w.heap.size w W ∧ S < W.heap.size
set_option maxRecDepth 100000 in
set_option maxHeartbeats 1600000 in
theorem lives_any (w : World) : Calls Tryz.prog 5 #[] w fun e w' => e = .returned (.bool true) ∧ Below w.heap.size w w' := by
 have cN := new_yes 4 w (by decide)
 have hb7 := build_d7
 have cS : ∀ B b n W, MkAt W B b n 4 m3 → Calls Tryz.prog 23 #[.pointer (some ⟨B, 0, none⟩), .int .i64 1, .agg (v8 d7).toArray, .int .i64 3] W fun e w' => TellS W [⟨0, tg 0⟩, ⟨1, tg 1⟩, ⟨3, tg 3⟩] e w' := fun B b n W h => by
  have := signs_any 1 d7 d7_len 3 B b n 4 m3 W h
  rw [ls3] at this
  exact this
 obtain ⟨u, hu⟩ : ∃ u, Hid (v8 d7 = u) := ⟨_, hide rfl⟩
 simp only [hu.out] at hb7 cS
 go_enter Tryz.func5, Tryz.ntmps5
 go_wp2_with fail
 refine cN.mono ?_
 rintro _ w1 ⟨rfl, hk1, hB1⟩
 clear cN
 have hs1 := hB1.size
 have hk1lt := hk1.lt
 obtain ⟨B, hBe⟩ : ∃ B, Hid (w.heap.size + 1 = B) := ⟨_, hide rfl⟩
 obtain ⟨b, hbe⟩ : ∃ b, Hid (w.heap.size = b) := ⟨_, hide rfl⟩
 rw [hBe.out] at hk1 hk1lt ⊢
 rw [hbe.out] at hk1
 go_upto_region 4 with fail
 try simp only [Act.put]
 refine pl_begin ?_
 refine pl_run (d := some 8) (v := .slice (some ⟨w1.heap.size, 0, none⟩) 3 3) (w' := w1.alloc (.cells l301.toArray 3)) (by rfl) (ex_bs3 rfl rfl rfl rfl (run_bs3 _)) rfl ?_
 simp only [nz]
 refine pl_t 9 (?_) (by rfl) ?_ rfl ?_
 rotate_left
 ·go_simp
  try with_reducible rfl
 simp only [nz]
 refine pl_t 10 (?_) (by rfl) ?_ rfl ?_
 rotate_left
 ·go_simp
  try with_reducible rfl
 simp only [nz]
 refine pl_nil ?_
 have hB2 : Below w1.heap.size w1 (w1.alloc (.cells l301.toArray 3)) := (Below.refl _ _).alloc (Nat.le_refl _) _
 have hR2 : (w1.alloc (.cells l301.toArray 3)).rangeAt w1.heap.size 0 l301 := by simpa using range_new w1 l301.toArray 3
 obtain ⟨S, hSe⟩ : ∃ S, Hid (w1.heap.size = S) := ⟨_, hide rfl⟩
 have hSb : S ≠ b := by rw [← hSe.out, ← hbe.out]; have := hBe.out; omega
 rw [hSe.out] at hR2 ⊢
 have hR0 : RL w B b S 0 (w1.alloc (.cells l301.toArray 3)) := ⟨hk1.below hB2, hR2, hB1.trans (hB2.mono hs1), by rw [← hSe.out]; simp⟩
 generalize w1.alloc (.cells l301.toArray 3) = w2 at *
 have hbw : w.heap.size ≤ b := by rw [← hbe.out]; exact Nat.le_refl _
 clear hR2 hB2 hk1 hB1 hSe hBe hbe hk1lt hs1
 go_wp2_with fail
 go_loopw [10] (fun kv wr => ∃ j : Nat, j ≤ 3 ∧ kv = .int .i64 (j : Int) ∧ RL w B b S j wr) (fun kv _ => (3 - intOf kv).toNat)
 case atStart => exact ⟨0, by omega, rfl, hR0⟩
 case round =>
  clear hR0
  obtain ⟨j, hj, rfl, hR⟩ := hrel
  rcases j with _ | _ | _ | _ | j
  ·have hM := hR.1
   have hc := hR.2.1 0 _ rfl
   simp only [Nat.zero_add, Nat.add_zero] at hc
   have cA := add_any B b 0 4 (fun _ => none) 3 (lx 3) (lx_ok 3 (by decide)) wr hM (by decide)
   rw [la0, lm0] at cA
   have hbt := build_tg 3 wr
   obtain ⟨tz, htz⟩ : ∃ u, Hid (v8 (tg 3) = u) := ⟨_, hide rfl⟩
   rw [htz.out] at hbt
   have cA : Calls Tryz.prog 22 #[.pointer (some ⟨B, 0, none⟩), .int .i64 3, .int .i64 1, .agg u.toArray, .agg tz.toArray] wr fun e w' => e = .returned (.int .i64 0) ∧ MkAt w' B b (0 + 1) 4 m1 ∧ Off (fun z => z = b) wr w' := by rw [← hu.out, ← htz.out]; exact cA
   clear htz
   go_upto_region 7 with fail
   try simp only [Act.put]
   refine pl_begin ?_
   refine pl_t 14 (?_) (by rfl) ?_ rfl ?_
   rotate_left
   ·go_simp
    try with_reducible rfl
   simp only [nz]
   refine pl_t 15 (?_) (by rfl) ?_ rfl ?_
   rotate_left
   ·go_simp
    try with_reducible rfl
   simp only [nz]
   refine pl_t 16 (.agg u.toArray) (by rfl) (ex_build (parts := [(0, .const (.int .u8 7))]) rfl rfl (hb7 wr)) rfl ?_
   simp only [nz]
   refine pl_t 17 (?_) (by rfl) ?_ rfl ?_
   rotate_left
   ·go_simp
    try with_reducible rfl
   simp only [nz]
   refine pl_t 18 (?_) (by rfl) ?_ rfl ?_
   rotate_left
   ·go_simp
    try with_reducible rfl
   simp only [nz]
   refine pl_t 19 (.agg tz.toArray) (by rfl) (ex_build (parts := [(0, .tmp 18)]) rfl rfl hbt) rfl ?_
   simp only [nz]
   refine pl_call (d := some 20) (by rfl) (by go_simp; first | done | exact ⟨rfl, rfl⟩ | with_reducible rfl) rfl ?_
   refine (cA).mono ?_
   rintro _ w9 ⟨rfl, hM9, hO9⟩
   refine ⟨_, rfl, ?_⟩
   simp only [nz]
   refine pl_t 21 (?_) (by rfl) ?_ rfl ?_
   rotate_left
   ·go_simp
    try with_reducible rfl
   simp only [nz]
   refine pl_nil ?_
   have hR9 : RL w B b S 1 w9 := ⟨hM9, range_at hR.2.1 (hO9.2 _ hR.2.2.2 hSb), hR.2.2.1.trans (hO9.below (by have := hR.2.2.1.size; omega) (fun z hz => by omega)), Nat.lt_of_lt_of_le hR.2.2.2 hO9.size⟩
   go_wp2_with fail
   go_roundw
   case rel => exact ⟨1, by omega, by go_num, hR9⟩
   case measure => simp [intOf]
  ·have hM := hR.1
   have hc := hR.2.1 1 _ rfl
   simp only [Nat.zero_add, Nat.add_zero] at hc
   have cA := add_any B b 1 4 m1 0 (lx 0) (lx_ok 0 (by decide)) wr hM (by decide)
   rw [la1, lm1] at cA
   have hbt := build_tg 0 wr
   obtain ⟨tz, htz⟩ : ∃ u, Hid (v8 (tg 0) = u) := ⟨_, hide rfl⟩
   rw [htz.out] at hbt
   have cA : Calls Tryz.prog 22 #[.pointer (some ⟨B, 0, none⟩), .int .i64 0, .int .i64 1, .agg u.toArray, .agg tz.toArray] wr fun e w' => e = .returned (.int .i64 0) ∧ MkAt w' B b (1 + 1) 4 m2 ∧ Off (fun z => z = b) wr w' := by rw [← hu.out, ← htz.out]; exact cA
   clear htz
   go_upto_region 7 with fail
   try simp only [Act.put]
   refine pl_begin ?_
   refine pl_t 14 (?_) (by rfl) ?_ rfl ?_
   rotate_left
   ·go_simp
    try with_reducible rfl
   simp only [nz]
   refine pl_t 15 (?_) (by rfl) ?_ rfl ?_
   rotate_left
   ·go_simp
    try with_reducible rfl
   simp only [nz]
   refine pl_t 16 (.agg u.toArray) (by rfl) (ex_build (parts := [(0, .const (.int .u8 7))]) rfl rfl (hb7 wr)) rfl ?_
   simp only [nz]
   refine pl_t 17 (?_) (by rfl) ?_ rfl ?_
   rotate_left
   ·go_simp
    try with_reducible rfl
   simp only [nz]
   refine pl_t 18 (?_) (by rfl) ?_ rfl ?_
   rotate_left
   ·go_simp
    try with_reducible rfl
   simp only [nz]
   refine pl_t 19 (.agg tz.toArray) (by rfl) (ex_build (parts := [(0, .tmp 18)]) rfl rfl hbt) rfl ?_
   simp only [nz]
   refine pl_call (d := some 20) (by rfl) (by go_simp; first | done | exact ⟨rfl, rfl⟩ | with_reducible rfl) rfl ?_
   refine (cA).mono ?_
   rintro _ w9 ⟨rfl, hM9, hO9⟩
   refine ⟨_, rfl, ?_⟩
   simp only [nz]
   refine pl_t 21 (?_) (by rfl) ?_ rfl ?_
   rotate_left
   ·go_simp
    try with_reducible rfl
   simp only [nz]
   refine pl_nil ?_
   have hR9 : RL w B b S 2 w9 := ⟨hM9, range_at hR.2.1 (hO9.2 _ hR.2.2.2 hSb), hR.2.2.1.trans (hO9.below (by have := hR.2.2.1.size; omega) (fun z hz => by omega)), Nat.lt_of_lt_of_le hR.2.2.2 hO9.size⟩
   go_wp2_with fail
   go_roundw
   case rel => exact ⟨2, by omega, by go_num, hR9⟩
   case measure => simp [intOf]
  ·have hM := hR.1
   have hc := hR.2.1 2 _ rfl
   simp only [Nat.zero_add, Nat.add_zero] at hc
   have cA := add_any B b 2 4 m2 1 (lx 1) (lx_ok 1 (by decide)) wr hM (by decide)
   rw [la2, lm2] at cA
   have hbt := build_tg 1 wr
   obtain ⟨tz, htz⟩ : ∃ u, Hid (v8 (tg 1) = u) := ⟨_, hide rfl⟩
   rw [htz.out] at hbt
   have cA : Calls Tryz.prog 22 #[.pointer (some ⟨B, 0, none⟩), .int .i64 1, .int .i64 1, .agg u.toArray, .agg tz.toArray] wr fun e w' => e = .returned (.int .i64 0) ∧ MkAt w' B b (2 + 1) 4 m3 ∧ Off (fun z => z = b) wr w' := by rw [← hu.out, ← htz.out]; exact cA
   clear htz
   go_upto_region 7 with fail
   try simp only [Act.put]
   refine pl_begin ?_
   refine pl_t 14 (?_) (by rfl) ?_ rfl ?_
   rotate_left
   ·go_simp
    try with_reducible rfl
   simp only [nz]
   refine pl_t 15 (?_) (by rfl) ?_ rfl ?_
   rotate_left
   ·go_simp
    try with_reducible rfl
   simp only [nz]
   refine pl_t 16 (.agg u.toArray) (by rfl) (ex_build (parts := [(0, .const (.int .u8 7))]) rfl rfl (hb7 wr)) rfl ?_
   simp only [nz]
   refine pl_t 17 (?_) (by rfl) ?_ rfl ?_
   rotate_left
   ·go_simp
    try with_reducible rfl
   simp only [nz]
   refine pl_t 18 (?_) (by rfl) ?_ rfl ?_
   rotate_left
   ·go_simp
    try with_reducible rfl
   simp only [nz]
   refine pl_t 19 (.agg tz.toArray) (by rfl) (ex_build (parts := [(0, .tmp 18)]) rfl rfl hbt) rfl ?_
   simp only [nz]
   refine pl_call (d := some 20) (by rfl) (by go_simp; first | done | exact ⟨rfl, rfl⟩ | with_reducible rfl) rfl ?_
   refine (cA).mono ?_
   rintro _ w9 ⟨rfl, hM9, hO9⟩
   refine ⟨_, rfl, ?_⟩
   simp only [nz]
   refine pl_t 21 (?_) (by rfl) ?_ rfl ?_
   rotate_left
   ·go_simp
    try with_reducible rfl
   simp only [nz]
   refine pl_nil ?_
   have hR9 : RL w B b S 3 w9 := ⟨hM9, range_at hR.2.1 (hO9.2 _ hR.2.2.2 hSb), hR.2.2.1.trans (hO9.below (by have := hR.2.2.1.size; omega) (fun z hz => by omega)), Nat.lt_of_lt_of_le hR.2.2.2 hO9.size⟩
   go_wp2_with fail
   go_roundw
   case rel => exact ⟨3, by omega, by go_num, hR9⟩
   case measure => simp [intOf]
  ·have hM := hR.1
   have cS3 := cS B b _ wr hM
   have cL3 : ∀ W, MkAt W B b (0 + 1 + 1 + 1) 4 m3 → Calls Tryz.prog 24 #[.pointer (some ⟨B, 0, none⟩), .int .i64 3] W fun e w' => e = .returned (.int .i64 1) ∧ Below W.heap.size W w' := fun W h => by
    have := last_any B b _ 4 m3 3 W h
    rw [ll3] at this
    exact this
   have cL4 : ∀ W, MkAt W B b (0 + 1 + 1 + 1) 4 m3 → Calls Tryz.prog 24 #[.pointer (some ⟨B, 0, none⟩), .int .i64 4] W fun e w' => e = .returned (.int .i64 0) ∧ Below W.heap.size W w' := fun W h => by
    have := last_any B b _ 4 m3 4 W h
    rw [ll4] at this
    exact this
   have hbl := hR.2.2.1
   clear hR cS
   go_upto_region 10 with fail
   try simp only [Act.put]
   refine pl_begin ?_
   refine pl_t 23 (?_) (by rfl) ?_ rfl ?_
   rotate_left
   ·go_simp
    try with_reducible rfl
   simp only [nz]
   refine pl_t 24 (.agg u.toArray) (by rfl) (ex_build (parts := [(0, .const (.int .u8 7))]) rfl rfl (hb7 wr)) rfl ?_
   simp only [nz]
   refine pl_call (d := some 25) (by rfl) (by go_simp; first | done | exact ⟨rfl, rfl⟩ | with_reducible rfl) rfl ?_
   refine (cS3).mono ?_
   rintro _ w5 ⟨a, cap, rfl, hsg, hcap, hB5⟩
   refine ⟨_, rfl, ?_⟩
   simp only [nz]
   refine pl_t 4 (?_) (by rfl) ?_ rfl ?_
   rotate_left
   ·go_simp
    try with_reducible rfl
   simp only [nz]
   refine pl_nil ?_
   have hM5 := hM.below hB5
   obtain ⟨b0, o0, rfl, hb0, hE2⟩ := hsg.elem 2 (by decide)
   obtain ⟨g, hg⟩ : ∃ g, Hid ((Sg.mk 3 (tg 3)).cells = g) := ⟨_, hide rfl⟩
   have hE2 : w5.rangeAt b0 (o0 + 34) g := by rw [← hg.out]; exact hE2
   have hg17 : g.length = 17 := by rw [← hg.out]; decide
   have hig : (Tryz.prog.info? 56).map (·.size) = some g.length := by rw [hg17]; exact iszG
   have hbt := build_tg 3 w5
   obtain ⟨tz, htz⟩ : ∃ u, Hid (v8 (tg 3) = u) := ⟨_, hide rfl⟩
   rw [htz.out] at hbt
   have hbg : ∀ w', (Instr.build 56 #[(0, .int .i64 3), (1, .agg tz.toArray)]).run Tryz.prog w' = .ok (.agg g.toArray) w' := fun w' => by rw [← hg.out, ← htz.out]; exact build_sign 3 (v8 (tg 3)) (by decide) w'
   have heg : ∀ w', (binOp .eql 56 (.agg g.toArray) (.agg g.toArray)).run Tryz.prog w' = .ok (.bool true) w' := fun w' => by
    have := eqS ⟨3, tg 3⟩ ⟨3, tg 3⟩ ⟨by decide, by unfold B8 tg; decide, by unfold I64; decide⟩ ⟨by decide, by unfold B8 tg; decide, by unfold I64; decide⟩ w'
    rw [← hg.out]
    exact this
   simp only [List.length_cons, List.length_nil, Nat.zero_add, Nat.reduceAdd] at hcap ⊢
   clear hsg hg cS3 htz
   go_upto_region 11 with fail
   try simp only [Act.put]
   refine pl_begin ?_
   refine pl_t 26 (?_) (by rfl) ?_ rfl ?_
   rotate_left
   ·go_simp
    try with_reducible rfl
   simp only [nz]
   refine pl_t 27 (?_) (by rfl) ?_ rfl ?_
   rotate_left
   ·go_simp
    try with_reducible rfl
   simp only [nz]
   refine pl_t 28 (?_) (by rfl) ?_ rfl ?_
   rotate_left
   ·go_simp
    try with_reducible rfl
   simp only [nz]
   refine pl_t 29 (?_) (by rfl) ?_ rfl ?_
   rotate_left
   ·go_simp
    try with_reducible rfl
   simp only [nz]
   refine pl_t 30 (?_) (by rfl) ?_ rfl ?_
   rotate_left
   ·go_simp
    try with_reducible rfl
   simp only [nz]
   refine pl_t 31 (?_) (by rfl) ?_ rfl ?_
   rotate_left
   ·go_simp
    try with_reducible rfl
   simp only [nz]
   refine pl_t 32 (.agg g.toArray) (by rfl) (ex_mid rfl rfl hE2 Tryz.underlying56 rfl hig) rfl ?_
   simp only [nz]
   refine pl_t 33 (.agg tz.toArray) (by rfl) (ex_build (parts := [(0, .const (.int .u8 3))]) rfl rfl hbt) rfl ?_
   simp only [nz]
   refine pl_t 34 (.agg g.toArray) (by rfl) (ex_build (parts := [(0, .const (.int .i64 3)), (1, .tmp 33)]) rfl rfl (hbg w5)) rfl ?_
   simp only [nz]
   refine pl_t 35 (.bool true) (by rfl) (ex_bin rfl rfl rfl (by kernel_rfl) (heg w5)) rfl ?_
   simp only [nz]
   refine pl_t 36 (?_) (by rfl) ?_ rfl ?_
   rotate_left
   ·go_simp
    try with_reducible rfl
   simp only [nz]
   refine pl_t 37 (?_) (by rfl) ?_ rfl ?_
   rotate_left
   ·go_simp
    try with_reducible rfl
   simp only [nz]
   refine pl_t 38 (?_) (by rfl) ?_ rfl ?_
   rotate_left
   ·go_simp
    try with_reducible rfl
   simp only [nz]
   refine pl_call (d := some 39) (by rfl) (by go_simp; first | done | exact ⟨rfl, rfl⟩ | with_reducible rfl) rfl ?_
   refine (cL3 w5 hM5).mono ?_
   rintro _ w6 ⟨rfl, hB6⟩
   refine ⟨_, rfl, ?_⟩
   simp only [nz]
   refine pl_t 40 (?_) (by rfl) ?_ rfl ?_
   rotate_left
   ·go_simp
    try with_reducible rfl
   simp only [nz]
   refine pl_t 41 (?_) (by rfl) ?_ rfl ?_
   rotate_left
   ·go_simp
    try with_reducible rfl
   simp only [nz]
   refine pl_t 42 (?_) (by rfl) ?_ rfl ?_
   rotate_left
   ·go_simp
    try with_reducible rfl
   simp only [nz]
   refine pl_t 43 (?_) (by rfl) ?_ rfl ?_
   rotate_left
   ·go_simp
    try with_reducible rfl
   simp only [nz]
   refine pl_call (d := some 44) (by rfl) (by go_simp; first | done | exact ⟨rfl, rfl⟩ | with_reducible rfl) rfl ?_
   refine (cL4 w6 (hM5.below hB6)).mono ?_
   rintro _ w7 ⟨rfl, hB7⟩
   refine ⟨_, rfl, ?_⟩
   simp only [nz]
   refine pl_t 45 (?_) (by rfl) ?_ rfl ?_
   rotate_left
   ·go_simp
    try with_reducible rfl
   simp only [nz]
   refine pl_t 46 (?_) (by rfl) ?_ rfl ?_
   rotate_left
   ·go_simp
    try with_reducible rfl
   simp only [nz]
   refine pl_t 0 (?_) (by rfl) ?_ rfl ?_
   rotate_left
   ·go_simp
    try with_reducible rfl
   simp only [nz]
   refine pl_nil ?_
   go_wp2_with fail
   go_ret
   exact ⟨rfl, hbl.trans ((hB5.mono hbl.size).trans ((hB6.mono (by have := hbl.size; have := hB5.size; omega)).trans (hB7.mono (by have := hbl.size; have := hB5.size; have := hB6.size; omega))))⟩
  ·omega
end Go.Proofs.YtnfijfnnpbenfaaGreatDoor.Mk
