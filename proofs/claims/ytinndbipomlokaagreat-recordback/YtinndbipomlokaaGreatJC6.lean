/- message's writer: lists, envelopes, batches, certs, held, changes; message's writer: votes, envelopes, batches, certs, held, changes; message's writer: messages of all kinds; the document's bytes: tags, signs, certs; the document's bytes of a message; Encode, the program's and the document's; batches that are not too much -/
import Derived.Test.YtinndbipomlokaaGreatJC0
import Derived.Test.YtinndbipomlokaaGreatJC5
import Derived.Test.YtinndbipomlokaaGreatJC3
import Derived.Test.YtinndbipomlokaaGreatJC2
namespace Go.Proofs.YtinndbipomlokaaGreat
open Go.RowKit
open Sha Tal
set_option linter.unusedVariables false
set_option linter.unusedSimpArgs false
theorem iszEv : (Tryz.prog.info? 108).map (·.size) = some 18 := by kernel_rfl
theorem iszSg : (Tryz.prog.info? 110).map (·.size) = some 17 := by kernel_rfl
theorem zeroSg : ∃ z : List Value, z.length = 17 ∧ ∀ w : World, (zeroValue 110).run Tryz.prog w = .ok (.agg z.toArray) w := ⟨[.int .i64 0] ++ v8 (List.replicate 16 0), by decide, fun w => by kernel_rfl⟩
theorem zeroEv : ∃ z : List Value, z.length = 18 ∧ ∀ w : World, (zeroValue 108).run Tryz.prog w = .ok (.agg z.toArray) w := ⟨[.int .i64 0, .string ⟨#[]⟩] ++ v8 (List.replicate 16 0), by decide, fun w => by kernel_rfl⟩
theorem zeroHd : ∃ z : List Value, z.length = 39 ∧ ∀ w : World, (zeroValue 134).run Tryz.prog w = .ok (.agg z.toArray) w := ⟨[.bool false, .slice none 0 0] ++ (Vt.zero.cells ++ [.slice none 0 0]), by decide, fun w => by kernel_rfl⟩
set_option maxRecDepth 100000 in
set_option maxHeartbeats 2000000 in
theorem wlistS_on (X : Nat) (v : Value) (zs : List Int) (x : Sl Sg) (w0 w : World) (hx : x.At SgE w0) (hb : Below w0.heap.size w0 w) (hX : w0.heap.size ≤ X) (h : WrAt w X v zs false) (hlen : x.xs.length ≤ 1000)
  (hE : ∀ g ∈ x.xs, ∀ v' zs' w', Below w0.heap.size w0 w' → WrAt w' X v' zs' false → zs'.length + (sgL g).length ≤ 4194304 → Calls Tryz.prog 133 #[.pointer (some ⟨X, 0, none⟩), .agg (SgE.f g).toArray] w' fun e w'' => WrOn X v' zs' (sgL g) w' e w'')
  (hl : zs.length + (putL (x.xs.length : Int) ++ x.xs.flatMap sgL).length ≤ 4194304) : Calls Tryz.prog 132 #[.pointer (some ⟨X, 0, none⟩), x.val, .func (.func 133) #[.pointer (some ⟨X, 0, none⟩)] #[]] w fun e w' => WrOn X v zs (putL (x.xs.length : Int) ++ x.xs.flatMap sgL) w e w' := by
 obtain ⟨a, cap, xs⟩ := x
 obtain ⟨zc, hzl, hzc⟩ := zeroSg
 simp only [Sl.val] at *
 have hx : RowsAt SgE w0 a xs := hx
 rw [List.length_append] at hl
 go_enter Tryz.func132, Tryz.ntmps132
 go_upto_region 0 with fail
 try simp only [Act.put]
 refine pl_begin ?_
 refine pl_t 8 (?_) (by rfl) ?_ rfl ?_
 rotate_left
 ·go_simp
  try with_reducible rfl
 simp only [nz]
 refine pl_t 9 (?_) (by rfl) ?_ rfl ?_
 rotate_left
 ·go_simp
  try with_reducible rfl
 simp only [nz]
 refine pl_t 10 (?_) (by rfl) ?_ rfl ?_
 rotate_left
 ·go_simp
  try with_reducible rfl
 simp only [nz]
 refine pl_run (d := some 11) (v := .slice (some ⟨w.heap.size, 0, none⟩) 1 1) (w' := w.alloc (.cells #[.int .i64 (xs.length : Int)] 3)) (by rfl) (ex_bsi rfl rfl (run_bsi _ _)) rfl ?_
 simp only [nz]
 refine pl_call (d := some 12) (by rfl) (by go_simp; first | done | exact ⟨rfl, rfl⟩ | with_reducible rfl) rfl ?_
 refine (nums_on X v zs [(xs.length : Int)] _ 1 w h rfl rfl (by omega) (one_le (by omega)) (by simp; omega)).mono ?_
 rintro _ w2 ⟨v2, rfl, hW2, hO2, hr2⟩
 refine ⟨_, rfl, ?_⟩
 simp only [nz]
 refine pl_nil ?_
 have hW2 : WrAt w2 X v2 (zs ++ putL (xs.length : Int)) false := by simpa using hW2
 have HK0 : Hid (∃ v', WrAt w2 X v' (zs ++ (putL (xs.length : Int) ++ (xs.take 0).flatMap sgL)) false ∧ Off (WrF X v) w w2 ∧ RowOn w v v') := hide ⟨v2, by simpa using hW2, hO2, hr2⟩
 clear hW2 hO2 hr2
 go_wp2_with fail
 go_loopw [15] (fun iv wr => ∃ k : Nat, k ≤ xs.length ∧ iv = .int .i64 (k : Int) ∧ Hid (∃ v', WrAt wr X v' (zs ++ (putL (xs.length : Int) ++ (xs.take k).flatMap sgL)) false ∧ Off (WrF X v) w wr ∧ RowOn w v v')) (fun iv _ => xs.length - (intOf iv).toNat)
 case atStart => exact ⟨0, by omega, rfl, HK0⟩
 case round =>
  clear HK0
  obtain ⟨k, hk, rfl, HK⟩ := hrel
  obtain ⟨v3, hW3, hO3, hr3⟩ := HK.out
  clear HK
  by_cases hlt : k < xs.length
  ·have k1 : (k : Int) < xs.length := by omega
   have hbw := hb.trans (wr_low h hX hO3)
   obtain ⟨b, off, rfl, hbb, hre⟩ := RowsAt.elem (hx.below hbw) k hlt
   have hre : wr.rangeAt b (off + k * 17) (SgE.f xs[k]) := hre
   have hiq : (Tryz.prog.info? 110).map (·.size) = some (SgE.f xs[k]).length := by rw [SgE.len _ (hx.2.1 _ (List.getElem_mem hlt))]; exact iszSg
   have hq1 := SgE.one xs[k]
   have hql : (SgE.f xs[k]).length = 17 := SgE.len _ (hx.2.1 _ (List.getElem_mem hlt))
   have hEk := hE xs[k] (List.getElem_mem hlt)
   have HS : Hid ((xs.take (k + 1)).flatMap sgL = (xs.take k).flatMap sgL ++ sgL xs[k]) := hide (by rw [List.take_succ_eq_append_getElem hlt, List.flatMap_append]; simp)
   have hll : ((xs.take (k + 1)).flatMap sgL).length ≤ (xs.flatMap sgL).length := by
    have e : xs.flatMap sgL = (xs.take (k + 1)).flatMap sgL ++ (xs.drop (k + 1)).flatMap sgL := by rw [← List.flatMap_append, List.take_append_drop]
    rw [e, List.length_append]
    omega
   rw [HS.out, List.length_append] at hll
   obtain ⟨bs, hbs⟩ : ∃ bs, Hid (sgL xs[k] = bs) := ⟨_, hide rfl⟩
   obtain ⟨q, hqq⟩ : ∃ q, Hid (SgE.f xs[k] = q) := ⟨_, hide rfl⟩
   rw [hbs.out] at HS hll
   rw [hqq.out] at hre hiq hq1 hql
   simp only [hbs.out, hqq.out] at hEk
   clear hqq hbs
   have hXl := hW3.lt
   go_upto_region 3 with fail
   try simp only [Act.put]
   refine pl_begin ?_
   refine pl_t 17 (?_) (by rfl) ?_ rfl ?_
   rotate_left
   ·go_simp
    try with_reducible rfl
   simp only [nz]
   refine pl_t 18 (.agg q.toArray) (by rfl) (ex_mid rfl rfl hre Tryz.underlying110 rfl hiq) rfl ?_
   simp only [nz]
   refine pl_run (d := some 7) (v := .pointer (some ⟨wr.heap.size, 0, none⟩)) (w' := wr.alloc (.cells zc.toArray 110)) (by rfl) (ex_alloc rfl (hzc _)) rfl ?_
   simp only [nz]
   refine pl_store (w' := (wr.alloc (.cells zc.toArray 110)).setCells wr.heap.size 0 q) (by rfl) (ex_put (cs := q.toArray) rfl rfl rfl (there_newN _ _ _ (by simp [hzl, hql])) (by simpa using hiq) (all_one hq1)) rfl ?_
   refine pl_nil ?_
   obtain ⟨hF1, hF2, hF3, -⟩ := fresh_store wr zc.toArray 110 q (by simp [hzl, hql])
   obtain ⟨w5, hw5⟩ : ∃ W, (wr.alloc (.cells zc.toArray 110)).setCells wr.heap.size 0 q = W := ⟨_, rfl⟩
   rw [hw5] at hF1 hF2 hF3 ⊢
   clear hw5
   have cE := hEk v3 _ w5 (hbw.trans (hF2.mono hbw.size)) (hW3.below hF2) (by simp only [List.length_append]; omega)
   have hO5 := hO3.below_r hF2
   have hr5 : RowOn w v v3 := hr3
   clear hW3 hO3 hr3 hF2 hF3 hEk
   go_upto_region 4 with fail
   try simp only [Act.put]
   refine pl_begin ?_
   refine pl_t 19 (?_) (by rfl) ?_ rfl ?_
   rotate_left
   ·go_simp
    try with_reducible rfl
   simp only [nz]
   refine pl_t 20 (.agg q.toArray) (by rfl) (ex_mid rfl rfl hF1 Tryz.underlying110 rfl hiq) rfl ?_
   simp only [nz]
   refine pl_call (d := some 21) (by rfl) (by go_simp; first | done | exact ⟨rfl, rfl⟩ | with_reducible rfl) rfl ?_
   refine (cE).mono ?_
   rintro _ w6 hfin
   obtain ⟨v6, rfl, g1, g2, g3⟩ := hfin
   refine ⟨_, rfl, ?_⟩
   simp only [nz]
   refine pl_nil ?_
   have T := wr_trans hO5 hr5 g2 g3
   have HN : Hid (∃ v', WrAt w6 X v' (zs ++ (putL (xs.length : Int) ++ (xs.take (k + 1)).flatMap sgL)) false ∧ Off (WrF X v) w w6 ∧ RowOn w v v') := hide ⟨v6, by rw [HS.out]; simpa [List.append_assoc] using g1, T.1, T.2⟩
   clear g1 g2 g3 T hO5 hr5 hF1
   go_wp2_with fail
   go_roundw
   case rel => exact ⟨k + 1, by omega, by go_num, HN⟩
   case measure => simp [intOf]; omega
  ·obtain rfl : k = xs.length := by omega
   rw [List.take_length] at hW3
   have HF := hide (show WrOn X v zs (putL (xs.length : Int) ++ xs.flatMap sgL) w (.returned (.tuple #[])) wr from ⟨v3, rfl, hW3, hO3, hr3⟩)
   go_wp2_with fail
   go_end0
   exact HF.out
set_option maxRecDepth 100000 in
set_option maxHeartbeats 2000000 in
theorem wlistE_on (X : Nat) (v : Value) (zs : List Int) (x : Sl Ev) (w0 w : World) (hx : x.At EvE w0) (hb : Below w0.heap.size w0 w) (hX : w0.heap.size ≤ X) (h : WrAt w X v zs false) (hlen : x.xs.length ≤ 1000)
  (hE : ∀ g ∈ x.xs, ∀ v' zs' w', Below w0.heap.size w0 w' → WrAt w' X v' zs' false → zs'.length + (evL g).length ≤ 4194304 → Calls Tryz.prog 128 #[.pointer (some ⟨X, 0, none⟩), .agg (EvE.f g).toArray] w' fun e w'' => WrOn X v' zs' (evL g) w' e w'')
  (hl : zs.length + (putL (x.xs.length : Int) ++ x.xs.flatMap evL).length ≤ 4194304) : Calls Tryz.prog 127 #[.pointer (some ⟨X, 0, none⟩), x.val, .func (.func 128) #[.pointer (some ⟨X, 0, none⟩)] #[]] w fun e w' => WrOn X v zs (putL (x.xs.length : Int) ++ x.xs.flatMap evL) w e w' := by
 obtain ⟨a, cap, xs⟩ := x
 obtain ⟨zc, hzl, hzc⟩ := zeroEv
 simp only [Sl.val] at *
 have hx : RowsAt EvE w0 a xs := hx
 rw [List.length_append] at hl
 go_enter Tryz.func127, Tryz.ntmps127
 go_upto_region 0 with fail
 try simp only [Act.put]
 refine pl_begin ?_
 refine pl_t 8 (?_) (by rfl) ?_ rfl ?_
 rotate_left
 ·go_simp
  try with_reducible rfl
 simp only [nz]
 refine pl_t 9 (?_) (by rfl) ?_ rfl ?_
 rotate_left
 ·go_simp
  try with_reducible rfl
 simp only [nz]
 refine pl_t 10 (?_) (by rfl) ?_ rfl ?_
 rotate_left
 ·go_simp
  try with_reducible rfl
 simp only [nz]
 refine pl_run (d := some 11) (v := .slice (some ⟨w.heap.size, 0, none⟩) 1 1) (w' := w.alloc (.cells #[.int .i64 (xs.length : Int)] 3)) (by rfl) (ex_bsi rfl rfl (run_bsi _ _)) rfl ?_
 simp only [nz]
 refine pl_call (d := some 12) (by rfl) (by go_simp; first | done | exact ⟨rfl, rfl⟩ | with_reducible rfl) rfl ?_
 refine (nums_on X v zs [(xs.length : Int)] _ 1 w h rfl rfl (by omega) (one_le (by omega)) (by simp; omega)).mono ?_
 rintro _ w2 ⟨v2, rfl, hW2, hO2, hr2⟩
 refine ⟨_, rfl, ?_⟩
 simp only [nz]
 refine pl_nil ?_
 have hW2 : WrAt w2 X v2 (zs ++ putL (xs.length : Int)) false := by simpa using hW2
 have HK0 : Hid (∃ v', WrAt w2 X v' (zs ++ (putL (xs.length : Int) ++ (xs.take 0).flatMap evL)) false ∧ Off (WrF X v) w w2 ∧ RowOn w v v') := hide ⟨v2, by simpa using hW2, hO2, hr2⟩
 clear hW2 hO2 hr2
 go_wp2_with fail
 go_loopw [15] (fun iv wr => ∃ k : Nat, k ≤ xs.length ∧ iv = .int .i64 (k : Int) ∧ Hid (∃ v', WrAt wr X v' (zs ++ (putL (xs.length : Int) ++ (xs.take k).flatMap evL)) false ∧ Off (WrF X v) w wr ∧ RowOn w v v')) (fun iv _ => xs.length - (intOf iv).toNat)
 case atStart => exact ⟨0, by omega, rfl, HK0⟩
 case round =>
  clear HK0
  obtain ⟨k, hk, rfl, HK⟩ := hrel
  obtain ⟨v3, hW3, hO3, hr3⟩ := HK.out
  clear HK
  by_cases hlt : k < xs.length
  ·have k1 : (k : Int) < xs.length := by omega
   have hbw := hb.trans (wr_low h hX hO3)
   obtain ⟨b, off, rfl, hbb, hre⟩ := RowsAt.elem (hx.below hbw) k hlt
   have hre : wr.rangeAt b (off + k * 18) (EvE.f xs[k]) := hre
   have hiq : (Tryz.prog.info? 108).map (·.size) = some (EvE.f xs[k]).length := by rw [EvE.len _ (hx.2.1 _ (List.getElem_mem hlt))]; exact iszEv
   have hq1 := EvE.one xs[k]
   have hql : (EvE.f xs[k]).length = 18 := EvE.len _ (hx.2.1 _ (List.getElem_mem hlt))
   have hEk := hE xs[k] (List.getElem_mem hlt)
   have HS : Hid ((xs.take (k + 1)).flatMap evL = (xs.take k).flatMap evL ++ evL xs[k]) := hide (by rw [List.take_succ_eq_append_getElem hlt, List.flatMap_append]; simp)
   have hll : ((xs.take (k + 1)).flatMap evL).length ≤ (xs.flatMap evL).length := by
    have e : xs.flatMap evL = (xs.take (k + 1)).flatMap evL ++ (xs.drop (k + 1)).flatMap evL := by rw [← List.flatMap_append, List.take_append_drop]
    rw [e, List.length_append]
    omega
   rw [HS.out, List.length_append] at hll
   obtain ⟨bs, hbs⟩ : ∃ bs, Hid (evL xs[k] = bs) := ⟨_, hide rfl⟩
   obtain ⟨q, hqq⟩ : ∃ q, Hid (EvE.f xs[k] = q) := ⟨_, hide rfl⟩
   rw [hbs.out] at HS hll
   rw [hqq.out] at hre hiq hq1 hql
   simp only [hbs.out, hqq.out] at hEk
   clear hqq hbs
   have hXl := hW3.lt
   go_upto_region 3 with fail
   try simp only [Act.put]
   refine pl_begin ?_
   refine pl_t 17 (?_) (by rfl) ?_ rfl ?_
   rotate_left
   ·go_simp
    try with_reducible rfl
   simp only [nz]
   refine pl_t 18 (.agg q.toArray) (by rfl) (ex_mid rfl rfl hre Tryz.underlying108 rfl hiq) rfl ?_
   simp only [nz]
   refine pl_run (d := some 7) (v := .pointer (some ⟨wr.heap.size, 0, none⟩)) (w' := wr.alloc (.cells zc.toArray 108)) (by rfl) (ex_alloc rfl (hzc _)) rfl ?_
   simp only [nz]
   refine pl_store (w' := (wr.alloc (.cells zc.toArray 108)).setCells wr.heap.size 0 q) (by rfl) (ex_put (cs := q.toArray) rfl rfl rfl (there_newN _ _ _ (by simp [hzl, hql])) (by simpa using hiq) (all_one hq1)) rfl ?_
   refine pl_nil ?_
   obtain ⟨hF1, hF2, hF3, -⟩ := fresh_store wr zc.toArray 108 q (by simp [hzl, hql])
   obtain ⟨w5, hw5⟩ : ∃ W, (wr.alloc (.cells zc.toArray 108)).setCells wr.heap.size 0 q = W := ⟨_, rfl⟩
   rw [hw5] at hF1 hF2 hF3 ⊢
   clear hw5
   have cE := hEk v3 _ w5 (hbw.trans (hF2.mono hbw.size)) (hW3.below hF2) (by simp only [List.length_append]; omega)
   have hO5 := hO3.below_r hF2
   have hr5 : RowOn w v v3 := hr3
   clear hW3 hO3 hr3 hF2 hF3 hEk
   go_upto_region 4 with fail
   try simp only [Act.put]
   refine pl_begin ?_
   refine pl_t 19 (?_) (by rfl) ?_ rfl ?_
   rotate_left
   ·go_simp
    try with_reducible rfl
   simp only [nz]
   refine pl_t 20 (.agg q.toArray) (by rfl) (ex_mid rfl rfl hF1 Tryz.underlying108 rfl hiq) rfl ?_
   simp only [nz]
   refine pl_call (d := some 21) (by rfl) (by go_simp; first | done | exact ⟨rfl, rfl⟩ | with_reducible rfl) rfl ?_
   refine (cE).mono ?_
   rintro _ w6 hfin
   obtain ⟨v6, rfl, g1, g2, g3⟩ := hfin
   refine ⟨_, rfl, ?_⟩
   simp only [nz]
   refine pl_nil ?_
   have T := wr_trans hO5 hr5 g2 g3
   have HN : Hid (∃ v', WrAt w6 X v' (zs ++ (putL (xs.length : Int) ++ (xs.take (k + 1)).flatMap evL)) false ∧ Off (WrF X v) w w6 ∧ RowOn w v v') := hide ⟨v6, by rw [HS.out]; simpa [List.append_assoc] using g1, T.1, T.2⟩
   clear g1 g2 g3 T hO5 hr5 hF1
   go_wp2_with fail
   go_roundw
   case rel => exact ⟨k + 1, by omega, by go_num, HN⟩
   case measure => simp [intOf]; omega
  ·obtain rfl : k = xs.length := by omega
   rw [List.take_length] at hW3
   have HF := hide (show WrOn X v zs (putL (xs.length : Int) ++ xs.flatMap evL) w (.returned (.tuple #[])) wr from ⟨v3, rfl, hW3, hO3, hr3⟩)
   go_wp2_with fail
   go_end0
   exact HF.out
set_option maxRecDepth 100000 in
set_option maxHeartbeats 2000000 in
theorem wlistH_on (X : Nat) (v : Value) (zs : List Int) (x : Sl Hd) (w0 w : World) (hx : x.At HdE w0) (hb : Below w0.heap.size w0 w) (hX : w0.heap.size ≤ X) (h : WrAt w X v zs false) (hlen : x.xs.length ≤ 1000)
  (hE : ∀ g ∈ x.xs, ∀ v' zs' w', Below w0.heap.size w0 w' → WrAt w' X v' zs' false → zs'.length + (hdL g).length ≤ 4194304 → Calls Tryz.prog 156 #[.pointer (some ⟨X, 0, none⟩), .agg (HdE.f g).toArray] w' fun e w'' => WrOn X v' zs' (hdL g) w' e w'')
  (hl : zs.length + (putL (x.xs.length : Int) ++ x.xs.flatMap hdL).length ≤ 4194304) : Calls Tryz.prog 155 #[.pointer (some ⟨X, 0, none⟩), x.val, .func (.func 156) #[.pointer (some ⟨X, 0, none⟩)] #[]] w fun e w' => WrOn X v zs (putL (x.xs.length : Int) ++ x.xs.flatMap hdL) w e w' := by
 obtain ⟨a, cap, xs⟩ := x
 obtain ⟨zc, hzl, hzc⟩ := zeroHd
 simp only [Sl.val] at *
 have hx : RowsAt HdE w0 a xs := hx
 rw [List.length_append] at hl
 go_enter Tryz.func155, Tryz.ntmps155
 go_upto_region 0 with fail
 try simp only [Act.put]
 refine pl_begin ?_
 refine pl_t 8 (?_) (by rfl) ?_ rfl ?_
 rotate_left
 ·go_simp
  try with_reducible rfl
 simp only [nz]
 refine pl_t 9 (?_) (by rfl) ?_ rfl ?_
 rotate_left
 ·go_simp
  try with_reducible rfl
 simp only [nz]
 refine pl_t 10 (?_) (by rfl) ?_ rfl ?_
 rotate_left
 ·go_simp
  try with_reducible rfl
 simp only [nz]
 refine pl_run (d := some 11) (v := .slice (some ⟨w.heap.size, 0, none⟩) 1 1) (w' := w.alloc (.cells #[.int .i64 (xs.length : Int)] 3)) (by rfl) (ex_bsi rfl rfl (run_bsi _ _)) rfl ?_
 simp only [nz]
 refine pl_call (d := some 12) (by rfl) (by go_simp; first | done | exact ⟨rfl, rfl⟩ | with_reducible rfl) rfl ?_
 refine (nums_on X v zs [(xs.length : Int)] _ 1 w h rfl rfl (by omega) (one_le (by omega)) (by simp; omega)).mono ?_
 rintro _ w2 ⟨v2, rfl, hW2, hO2, hr2⟩
 refine ⟨_, rfl, ?_⟩
 simp only [nz]
 refine pl_nil ?_
 have hW2 : WrAt w2 X v2 (zs ++ putL (xs.length : Int)) false := by simpa using hW2
 have HK0 : Hid (∃ v', WrAt w2 X v' (zs ++ (putL (xs.length : Int) ++ (xs.take 0).flatMap hdL)) false ∧ Off (WrF X v) w w2 ∧ RowOn w v v') := hide ⟨v2, by simpa using hW2, hO2, hr2⟩
 clear hW2 hO2 hr2
 go_wp2_with fail
 go_loopw [15] (fun iv wr => ∃ k : Nat, k ≤ xs.length ∧ iv = .int .i64 (k : Int) ∧ Hid (∃ v', WrAt wr X v' (zs ++ (putL (xs.length : Int) ++ (xs.take k).flatMap hdL)) false ∧ Off (WrF X v) w wr ∧ RowOn w v v')) (fun iv _ => xs.length - (intOf iv).toNat)
 case atStart => exact ⟨0, by omega, rfl, HK0⟩
 case round =>
  clear HK0
  obtain ⟨k, hk, rfl, HK⟩ := hrel
  obtain ⟨v3, hW3, hO3, hr3⟩ := HK.out
  clear HK
  by_cases hlt : k < xs.length
  ·have k1 : (k : Int) < xs.length := by omega
   have hbw := hb.trans (wr_low h hX hO3)
   obtain ⟨b, off, rfl, hbb, hre⟩ := RowsAt.elem (hx.below hbw) k hlt
   have hre : wr.rangeAt b (off + k * 39) (HdE.f xs[k]) := hre
   have hiq : (Tryz.prog.info? 134).map (·.size) = some (HdE.f xs[k]).length := by rw [HdE.len _ (hx.2.1 _ (List.getElem_mem hlt))]; exact iszH
   have hq1 := HdE.one xs[k]
   have hql : (HdE.f xs[k]).length = 39 := HdE.len _ (hx.2.1 _ (List.getElem_mem hlt))
   have hEk := hE xs[k] (List.getElem_mem hlt)
   have HS : Hid ((xs.take (k + 1)).flatMap hdL = (xs.take k).flatMap hdL ++ hdL xs[k]) := hide (by rw [List.take_succ_eq_append_getElem hlt, List.flatMap_append]; simp)
   have hll : ((xs.take (k + 1)).flatMap hdL).length ≤ (xs.flatMap hdL).length := by
    have e : xs.flatMap hdL = (xs.take (k + 1)).flatMap hdL ++ (xs.drop (k + 1)).flatMap hdL := by rw [← List.flatMap_append, List.take_append_drop]
    rw [e, List.length_append]
    omega
   rw [HS.out, List.length_append] at hll
   obtain ⟨bs, hbs⟩ : ∃ bs, Hid (hdL xs[k] = bs) := ⟨_, hide rfl⟩
   obtain ⟨q, hqq⟩ : ∃ q, Hid (HdE.f xs[k] = q) := ⟨_, hide rfl⟩
   rw [hbs.out] at HS hll
   rw [hqq.out] at hre hiq hq1 hql
   simp only [hbs.out, hqq.out] at hEk
   clear hqq hbs
   have hXl := hW3.lt
   go_upto_region 3 with fail
   try simp only [Act.put]
   refine pl_begin ?_
   refine pl_t 17 (?_) (by rfl) ?_ rfl ?_
   rotate_left
   ·go_simp
    try with_reducible rfl
   simp only [nz]
   refine pl_t 18 (.agg q.toArray) (by rfl) (ex_mid rfl rfl hre Tryz.underlying134 rfl hiq) rfl ?_
   simp only [nz]
   refine pl_run (d := some 7) (v := .pointer (some ⟨wr.heap.size, 0, none⟩)) (w' := wr.alloc (.cells zc.toArray 134)) (by rfl) (ex_alloc rfl (hzc _)) rfl ?_
   simp only [nz]
   refine pl_store (w' := (wr.alloc (.cells zc.toArray 134)).setCells wr.heap.size 0 q) (by rfl) (ex_put (cs := q.toArray) rfl rfl rfl (there_newN _ _ _ (by simp [hzl, hql])) (by simpa using hiq) (all_one hq1)) rfl ?_
   refine pl_nil ?_
   obtain ⟨hF1, hF2, hF3, -⟩ := fresh_store wr zc.toArray 134 q (by simp [hzl, hql])
   obtain ⟨w5, hw5⟩ : ∃ W, (wr.alloc (.cells zc.toArray 134)).setCells wr.heap.size 0 q = W := ⟨_, rfl⟩
   rw [hw5] at hF1 hF2 hF3 ⊢
   clear hw5
   have cE := hEk v3 _ w5 (hbw.trans (hF2.mono hbw.size)) (hW3.below hF2) (by simp only [List.length_append]; omega)
   have hO5 := hO3.below_r hF2
   have hr5 : RowOn w v v3 := hr3
   clear hW3 hO3 hr3 hF2 hF3 hEk
   go_upto_region 4 with fail
   try simp only [Act.put]
   refine pl_begin ?_
   refine pl_t 19 (?_) (by rfl) ?_ rfl ?_
   rotate_left
   ·go_simp
    try with_reducible rfl
   simp only [nz]
   refine pl_t 20 (.agg q.toArray) (by rfl) (ex_mid rfl rfl hF1 Tryz.underlying134 rfl hiq) rfl ?_
   simp only [nz]
   refine pl_call (d := some 21) (by rfl) (by go_simp; first | done | exact ⟨rfl, rfl⟩ | with_reducible rfl) rfl ?_
   refine (cE).mono ?_
   rintro _ w6 hfin
   obtain ⟨v6, rfl, g1, g2, g3⟩ := hfin
   refine ⟨_, rfl, ?_⟩
   simp only [nz]
   refine pl_nil ?_
   have T := wr_trans hO5 hr5 g2 g3
   have HN : Hid (∃ v', WrAt w6 X v' (zs ++ (putL (xs.length : Int) ++ (xs.take (k + 1)).flatMap hdL)) false ∧ Off (WrF X v) w w6 ∧ RowOn w v v') := hide ⟨v6, by rw [HS.out]; simpa [List.append_assoc] using g1, T.1, T.2⟩
   clear g1 g2 g3 T hO5 hr5 hF1
   go_wp2_with fail
   go_roundw
   case rel => exact ⟨k + 1, by omega, by go_num, HN⟩
   case measure => simp [intOf]; omega
  ·obtain rfl : k = xs.length := by omega
   rw [List.take_length] at hW3
   have HF := hide (show WrOn X v zs (putL (xs.length : Int) ++ xs.flatMap hdL) w (.returned (.tuple #[])) wr from ⟨v3, rfl, hW3, hO3, hr3⟩)
   go_wp2_with fail
   go_end0
   exact HF.out
theorem wvote_on (X : Nat) (v : Value) (zs : List Int) (x : Vt) (w : World) (hx : x.ok) (h : WrAt w X v zs false) (hl : zs.length + (vtL x).length ≤ 4194304) : Calls Tryz.prog 125 #[.pointer (some ⟨X, 0, none⟩), .agg x.cells.toArray] w fun e w' => WrOn X v zs (vtL x) w e w' := by
 have c := wvote_any X v (zs, false) x w hx h (by show zs.length ≤ 4194304; omega)
 unfold vtL at hl ⊢
 rw [List.length_append] at hl
 rw [wrN_on [x.k, x.e, x.v, x.s] zs (by omega)] at c
 have e : wrS (zs ++ [x.k, x.e, x.v, x.s].flatMap putL, false) x.d = (zs ++ [x.k, x.e, x.v, x.s].flatMap putL ++ x.d, false) := by
  unfold wrS
  simp only
  rw [full_no (by rw [List.length_append]; omega), wrL_f]
 rw [e] at c
 exact c.mono (fun e w' ⟨v', q1, q2, q3, q4⟩ => ⟨v', q1, by rw [← List.append_assoc]; exact q2, q3, q4⟩)
theorem reqs_at {w : World} {a : Option Addr} {xs : List Rq} (h : RowsAt RqE w a xs) : ReqsAt w a (xs.map BRq.of) := by
 refine ⟨by rw [List.length_map]; exact h.1, fun r hr => ?_, ?_⟩
 ·obtain ⟨y, hy, rfl⟩ := List.mem_map.1 hr
  have k : y.ok := h.2.1 y hy
  exact ⟨k.tl, k.tb, k.sl, k.cl, k.ch, k.nl, k.nh⟩
 ·rcases h.2.2 with q | ⟨b, off, rfl, h1, h2⟩
  ·exact .inl (by rw [q]; rfl)
  ·refine .inr ⟨b, off, rfl, h1, ?_⟩
   have e : flatR (xs.map BRq.of) = xs.flatMap RqE.f := by
    unfold flatR
    rw [List.flatMap_map]
    rfl
   rw [e]
   exact h2
theorem iszBa : (Tryz.prog.info? 24).map (·.size) = some 2 := by kernel_rfl
theorem iszCe : (Tryz.prog.info? 31).map (·.size) = some 37 := by kernel_rfl
theorem iszVo : (Tryz.prog.info? 28).map (·.size) = some 36 := by kernel_rfl
theorem iszCh : (Tryz.prog.info? 60).map (·.size) = some 4 := by kernel_rfl
theorem boxed_new (w : World) (q : List Value) (t : TypeId) : Below w.heap.size w (w.alloc (.cells q.toArray t)) ∧ (w.alloc (.cells q.toArray t)).rangeAt w.heap.size 0 q ∧ w.heap.size < (w.alloc (.cells q.toArray t)).heap.size :=
 ⟨(Below.refl _ _).alloc (Nat.le_refl _) _, by simpa using range_new w q.toArray t, by simp⟩
set_option maxRecDepth 100000 in
set_option maxHeartbeats 2000000 in
theorem wbatch_on (X : Nat) (v : Value) (zs : List Int) (q : Bool) (x : Sl Rq) (w : World) (hx : x.At RqE w) (h : WrAt w X v zs false) (hn : x.xs.length ≤ 200) (hs : ∀ r ∈ x.xs, r.s.size ≤ 4000) (hl : zs.length + (batL q (x.xs.map BRq.of)).length ≤ 4194304) : Calls Tryz.prog 124 #[.pointer (some ⟨X, 0, none⟩), .agg #[.bool q, x.val]] w fun e w' => WrOn X v zs (batL q (x.xs.map BRq.of)) w e w' := by
 obtain ⟨a, cap, xs⟩ := x
 simp only [Sl.val] at *
 have hx : RowsAt RqE w a xs := hx
 have cB := fun w' (hb : Below w.heap.size w w') => bput_any none 0 [] q a cap (xs.map BRq.of) w' (nil_row w') (by simp) (reqs_at (hx.below hb)) (by rw [List.length_map]; exact hn) (fun r hr => by
  obtain ⟨y, hy, rfl⟩ := List.mem_map.1 hr
  exact hs y hy)
 simp only [List.length_map, List.nil_append, List.length_nil] at cB
 unfold batV at cB
 generalize batL q (xs.map BRq.of) = bs at *
 obtain ⟨hB1, hR1, hs1⟩ := boxed_new w [.bool q, .slice a xs.length cap] 24
 go_enter Tryz.func124, Tryz.ntmps124
 go_upto_region 1 with fail
 obtain ⟨w1, hw1⟩ : ∃ W, w.alloc (.cells ([.bool q, .slice a xs.length cap]).toArray 24) = W := ⟨_, rfl⟩
 rw [hw1] at hB1 hR1 hs1 ⊢
 have h1 := h.below hB1
 have hXl := h.lt
 clear hw1
 try simp only [Act.put]
 refine pl_begin ?_
 refine pl_t 4 (?_) (by rfl) ?_ rfl ?_
 rotate_left
 ·go_simp
  try with_reducible rfl
 simp only [nz]
 refine pl_t 5 (.agg [.bool q, .slice a xs.length cap].toArray) (by rfl) (ex_mid rfl rfl hR1 Tryz.underlying24 rfl iszBa) rfl ?_
 simp only [nz]
 refine pl_call (d := some 6) (by rfl) (by go_simp; first | done | exact ⟨rfl, rfl⟩ | with_reducible rfl) rfl ?_
 refine (cB w1 hB1).mono ?_
 rintro _ w2 ⟨v2, rfl, hM, hB2⟩
 refine ⟨_, rfl, ?_⟩
 simp only [nz]
 obtain ⟨a2, cap2, rfl, _, _, hrw⟩ := hM.rowAt (by unfold maxLen; omega)
 have hMf := hM.fresh
 have h2 := h1.below hB2
 have c2 := raw_on X v zs a2 cap2 bs w2 h2 hrw (.inr (fun x hx => by have := hMf x hx; have := h1.lt; omega)) hl
 clear hM hMf hrw cB
 refine pl_call (d := some 7) (by rfl) (by go_simp; first | done | exact ⟨rfl, rfl⟩ | with_reducible rfl) rfl ?_
 refine (c2).mono ?_
 rintro _ w3 hfin
 have HF := hide (WrOn.from (hB1.trans (hB2.mono hB1.size)) hfin)
 obtain ⟨v3, rfl, g1, g2, g3⟩ := hfin
 refine ⟨_, rfl, ?_⟩
 simp only [nz]
 refine pl_nil ?_
 go_wp2_with fail
 go_end0
 exact HF.out
set_option maxRecDepth 100000 in
set_option maxHeartbeats 2000000 in
theorem wenv_on (X : Nat) (v : Value) (zs : List Int) (g : Ev) (hg : g.ok) (hs : g.s.size ≤ 1000000) (w : World) (h : WrAt w X v zs false) (hl : zs.length + (evL g).length ≤ 4194304) : Calls Tryz.prog 128 #[.pointer (some ⟨X, 0, none⟩), .agg g.cells.toArray] w fun e w' => WrOn X v zs (evL g) w e w' := by
 obtain ⟨n, st, t⟩ := g
 have ht16 : t.length = 16 := hg.tl
 have htb := hg.tb
 have hn : n ≤ 9223372036854775807 := hg.nh
 have hs : st.size ≤ 1000000 := hs
 have hcell : (Ev.mk n st t).cells = .int .i64 n :: .string st :: v8 t := rfl
 unfold evL at hl ⊢
 simp only [List.length_append] at hl ⊢
 rw [hcell]
 obtain ⟨q, hq⟩ : ∃ q, Hid ((.int .i64 n :: .string st :: v8 t : List Value) = q) := ⟨_, hide rfl⟩
 have q0 : q[0]? = some (.int .i64 n) := by rw [← hq.out]; rfl
 have q1 : q[1]? = some (.string st) := by rw [← hq.out]; rfl
 have q2 : ∀ {w' : World} {b : Nat}, w'.rangeAt b 0 q → w'.rangeAt b 2 (v8 t) := fun hr j u hj => by
  rw [← hq.out] at hr
  have := hr (2 + j) u (by rw [Nat.add_comm]; exact hj)
  rwa [Nat.zero_add] at this
 rw [hq.out]
 clear hq hcell
 obtain ⟨hB1, hR1, hs1⟩ := boxed_new w q 108
 go_enter Tryz.func128, Tryz.ntmps128
 go_upto_region 1 with fail
 obtain ⟨w1, hw1⟩ : ∃ W, w.alloc (.cells (q).toArray 108) = W := ⟨_, rfl⟩
 rw [hw1] at hB1 hR1 hs1 ⊢
 have h1 := h.below hB1
 have hXl := h.lt
 clear hw1
 have cc0 := hR1 0 _ q0
 simp only [Nat.add_zero] at cc0
 try simp only [Act.put]
 refine pl_begin ?_
 refine pl_t 4 (?_) (by rfl) ?_ rfl ?_
 rotate_left
 ·go_simp
  try with_reducible rfl
 simp only [nz]
 refine pl_t 5 (?_) (by rfl) ?_ rfl ?_
 rotate_left
 ·go_simp
  try with_reducible rfl
 simp only [nz]
 refine pl_t 6 (.int .i64 n) (by rfl) (pl_one rfl rfl cc0 Tryz.underlying3 rfl) rfl ?_
 simp only [nz]
 refine pl_run (d := some 7) (v := .slice (some ⟨w1.heap.size, 0, none⟩) 1 1) (w' := w1.alloc (.cells #[.int .i64 n] 3)) (by rfl) (ex_bsi rfl rfl (run_bsi n _)) rfl ?_
 simp only [nz]
 refine pl_call (d := some 8) (by rfl) (by go_simp; first | done | exact ⟨rfl, rfl⟩ | with_reducible rfl) rfl ?_
 refine (nums_on X v zs [n] _ 1 w1 h1 rfl rfl (by omega) (one_le hn) (by simp; omega)).mono ?_
 rintro _ w2 ⟨v2, rfl, hW2, hO2, hr2⟩
 refine ⟨_, rfl, ?_⟩
 simp only [nz]
 refine pl_nil ?_
 have hR2 := wr_kept h hs1 hO2 hR1
 have T := wr_trans (Off.of_below hB1) (rowon_refl w v) hO2 hr2
 have hs2 := hO2.size
 have hW2 : WrAt w2 X v2 (zs ++ putL n) false := by simpa using hW2
 have cT := wtext_on X v2 (zs ++ putL n) st w2 hW2 hs (by simp only [List.length_append]; omega)
 have cc1 := hR2 1 _ q1
 simp only [Nat.zero_add] at cc1
 go_upto_region 2 with fail
 try simp only [Act.put]
 refine pl_begin ?_
 refine pl_t 9 (?_) (by rfl) ?_ rfl ?_
 rotate_left
 ·go_simp
  try with_reducible rfl
 simp only [nz]
 refine pl_t 10 (?_) (by rfl) ?_ rfl ?_
 rotate_left
 ·go_simp
  try with_reducible rfl
 simp only [nz]
 refine pl_t 11 (.string st) (by rfl) (pl_one rfl rfl cc1 Tryz.underlying9 rfl) rfl ?_
 simp only [nz]
 refine pl_call (d := some 12) (by rfl) (by go_simp; first | done | exact ⟨rfl, rfl⟩ | with_reducible rfl) rfl ?_
 refine (cT).mono ?_
 rintro _ w3 hfin
 obtain ⟨v3, rfl, hW3, hO3, hr3⟩ := hfin
 refine ⟨_, rfl, ?_⟩
 simp only [nz]
 refine pl_nil ?_
 have T3 := wr_trans hO2 hr2 hO3 hr3
 have hR3 := q2 (wr_kept h hs1 T3.1 hR1)
 have T := wr_trans T.1 T.2 hO3 hr3
 have hs3 := hO3.size
 obtain ⟨Z, hZ⟩ : ∃ Z, Hid (w.heap.size = Z) := ⟨_, hide rfl⟩
 have hZX : Z ≠ X := by rw [← hZ.out]; omega
 have hZ3 : Z < w3.heap.size := by rw [← hZ.out]; omega
 rw [hZ.out] at hR3 ⊢
 have hrow : RowAt w3 (some ⟨Z, 2, none⟩) t := ⟨by rw [ht16]; decide, htb, .inr ⟨_, _, rfl, hZ3, hR3⟩⟩
 have cr := raw_on X v3 (zs ++ putL n ++ textL st) (some ⟨Z, 2, none⟩) 16 t w3 hW3 hrow (.inr (fun x hx => by cases hx; exact hZX)) (by simp only [List.length_append]; omega)
 rw [show t.length = 16 from ht16] at cr
 clear hR2 cc0 cc1 hR1
 go_wp2_with fail
 refine cr.mono ?_
 intro _ w4 hfin
 obtain ⟨v4, rfl, g1, g2, g3⟩ := hfin
 have T := wr_trans T.1 T.2 g2 g3
 have HF := hide (show WrOn X v zs (putL n ++ (textL st ++ t)) w (.returned (.tuple #[])) w4 from ⟨v4, rfl, by simpa [List.append_assoc] using g1, T.1, T.2⟩)
 go_wp2_with fail
 go_end0
 exact HF.out
set_option maxRecDepth 100000 in
set_option maxHeartbeats 2000000 in
theorem wcert_on (X : Nat) (v : Value) (zs : List Int) (x : Vt) (sg : Sl Sg) (w0 w : World) (hx : x.ok) (hsg : sg.At SgE w0) (hb : Below w0.heap.size w0 w) (hX : w0.heap.size ≤ X) (hsl : sg.xs.length ≤ 1000) (h : WrAt w X v zs false) (hl : zs.length + (ctL x sg.xs).length ≤ 4194304) : Calls Tryz.prog 130 #[.pointer (some ⟨X, 0, none⟩), .agg (certL x sg).toArray] w fun e w' => WrOn X v zs (ctL x sg.xs) w e w' := by
 have hx36 := hx.len
 have hix : (Tryz.prog.info? 28).map (·.size) = some x.cells.length := by rw [hx36]; exact iszVo
 unfold ctL at hl ⊢
 rw [List.length_append] at hl
 have cV := fun w' (h' : WrAt w' X v zs false) => wvote_on X v zs x w' hx h' (by omega)
 have cG := fun v' w' (hb' : Below w0.heap.size w0 w') (h' : WrAt w' X v' (zs ++ vtL x) false) => wlistS_on X v' (zs ++ vtL x) sg w0 w' hsg hb' hX h' hsl (fun g hg v2 zs2 w2 _ h2 hl2 => wsign_on X v2 zs2 g (hsg.2.1 g hg) w2 h2 hl2) (by rw [List.length_append]; exact (by unfold sgsL at hl; omega))
 have q36 : ∀ {w' : World} {b : Nat}, w'.rangeAt b 0 (certL x sg) → w'.rangeAt b 0 x.cells ∧ w'.cell? ⟨b, 36, none⟩ = some sg.val := fun hr => by
  have r1 := range_left hr
  have r2 := range_right hr
  rw [hx36] at r2
  have := r2 0 _ rfl
  exact ⟨r1, by simpa using this⟩
 obtain ⟨q, hq⟩ : ∃ q, Hid (certL x sg = q) := ⟨_, hide rfl⟩
 rw [hq.out]
 simp only [hq.out] at q36
 unfold sgsL at *
 generalize x.cells = u at *
 generalize vtL x = bv at *
 generalize putL (sg.xs.length : Int) ++ sg.xs.flatMap sgL = bg at *
 obtain ⟨a, cap, xs⟩ := sg
 simp only [Sl.val] at *
 obtain ⟨hB1, hR1, hs1⟩ := boxed_new w q 31
 go_enter Tryz.func130, Tryz.ntmps130
 go_upto_region 1 with fail
 obtain ⟨w1, hw1⟩ : ∃ W, w.alloc (.cells (q).toArray 31) = W := ⟨_, rfl⟩
 rw [hw1] at hB1 hR1 hs1 ⊢
 have h1 := h.below hB1
 have hXl := h.lt
 clear hw1
 have cV1 := cV w1 h1
 try simp only [Act.put]
 refine pl_begin ?_
 refine pl_t 4 (?_) (by rfl) ?_ rfl ?_
 rotate_left
 ·go_simp
  try with_reducible rfl
 simp only [nz]
 refine pl_t 5 (?_) (by rfl) ?_ rfl ?_
 rotate_left
 ·go_simp
  try with_reducible rfl
 simp only [nz]
 refine pl_t 6 (.agg u.toArray) (by rfl) (ex_mid rfl rfl (q36 hR1).1 Tryz.underlying28 rfl hix) rfl ?_
 simp only [nz]
 refine pl_call (d := some 7) (by rfl) (by go_simp; first | done | exact ⟨rfl, rfl⟩ | with_reducible rfl) rfl ?_
 refine (cV1).mono ?_
 rintro _ w2 ⟨v2, rfl, hW2, hO2, hr2⟩
 refine ⟨_, rfl, ?_⟩
 simp only [nz]
 refine pl_nil ?_
 have hR2 := wr_kept h hs1 hO2 hR1
 have T := wr_trans (Off.of_below hB1) (rowon_refl w v) hO2 hr2
 have hb2 := hb.trans (wr_low h hX T.1)
 have cG2 := cG v2 w2 hb2 hW2
 clear cV cG cV1
 go_upto_region 2 with fail
 try simp only [Act.put]
 refine pl_begin ?_
 refine pl_t 8 (?_) (by rfl) ?_ rfl ?_
 rotate_left
 ·go_simp
  try with_reducible rfl
 simp only [nz]
 refine pl_t 9 (?_) (by rfl) ?_ rfl ?_
 rotate_left
 ·go_simp
  try with_reducible rfl
 simp only [nz]
 refine pl_t 10 (.slice a xs.length cap) (by rfl) (pl_one rfl rfl (q36 hR2).2 Tryz.underlying29 rfl) rfl ?_
 simp only [nz]
 refine pl_t 11 (?_) (by rfl) ?_ rfl ?_
 rotate_left
 ·go_simp
  try with_reducible rfl
 simp only [nz]
 refine pl_t 12 (?_) (by rfl) ?_ rfl ?_
 rotate_left
 ·go_simp
  try with_reducible rfl
 simp only [nz]
 refine pl_call (d := some 13) (by rfl) (by go_simp; first | done | exact ⟨rfl, rfl⟩ | with_reducible rfl) rfl ?_
 refine (cG2).mono ?_
 rintro _ w3 hfin
 have HF := hide (WrOn.next T.1 T.2 hfin)
 obtain ⟨v3, rfl, g1, g2, g3⟩ := hfin
 refine ⟨_, rfl, ?_⟩
 simp only [nz]
 refine pl_nil ?_
 go_wp2_with fail
 go_end0
 exact HF.out
set_option maxRecDepth 100000 in
set_option maxHeartbeats 2000000 in
theorem wheld_on (X : Nat) (v : Value) (zs : List Int) (g : Hd) (w0 w : World) (hx : g.vt.ok) (hg : g.At w0) (hb : Below w0.heap.size w0 w) (hX : w0.heap.size ≤ X) (hsl : g.sg.xs.length ≤ 1000) (hn : g.rs.xs.length ≤ 200) (hs : ∀ r ∈ g.rs.xs, r.s.size ≤ 4000) (h : WrAt w X v zs false) (hl : zs.length + (hdL g).length ≤ 4194304) : Calls Tryz.prog 156 #[.pointer (some ⟨X, 0, none⟩), .agg g.cells.toArray] w fun e w' => WrOn X v zs (hdL g) w e w' := by
 obtain ⟨qb, rs, vt, sg⟩ := g
 have hx : vt.ok := hx
 have hr0 : rs.At RqE w0 := hg.1
 have hs0 : sg.At SgE w0 := hg.2
 simp only at *
 unfold hdL at hl ⊢
 simp only [List.length_append] at hl
 simp only
 have cB := fun w' (hb' : Below w0.heap.size w0 w') (h' : WrAt w' X v zs false) => wbatch_on X v zs qb rs w' (hr0.below hb') h' hn hs (by omega)
 have cC := fun v' w' (hb' : Below w0.heap.size w0 w') (h' : WrAt w' X v' (zs ++ batL qb (rs.xs.map BRq.of)) false) => wcert_on X v' (zs ++ batL qb (rs.xs.map BRq.of)) vt sg w0 w' hx hs0 hb' hX hsl h' (by rw [List.length_append]; omega)
 have hcell : (Hd.mk qb rs vt sg).cells = [.bool qb, rs.val] ++ certL vt sg := rfl
 rw [hcell]
 have hc37 : (certL vt sg).length = 37 := by simp [certL, hx.len]
 have hic : (Tryz.prog.info? 31).map (·.size) = some (certL vt sg).length := by rw [hc37]; exact iszCe
 obtain ⟨c, hc⟩ : ∃ c, Hid (certL vt sg = c) := ⟨_, hide rfl⟩
 simp only [hc.out] at cC hic ⊢
 generalize batL qb (rs.xs.map BRq.of) = bb at *
 generalize ctL vt sg.xs = bc at *
 obtain ⟨a, cap, xs⟩ := rs
 simp only [Sl.val] at *
 have hrr : ∀ {w' : World} {b : Nat}, w'.rangeAt b 0 ([.bool qb, .slice a xs.length cap] ++ c) → w'.rangeAt b 0 [.bool qb, .slice a xs.length cap] ∧ w'.rangeAt b 2 c := fun hr => ⟨range_left hr, by simpa using range_right hr⟩
 obtain ⟨q, hq⟩ : ∃ q, Hid (([.bool qb, .slice a xs.length cap] ++ c : List Value) = q) := ⟨_, hide rfl⟩
 rw [hq.out]
 simp only [hq.out] at hrr
 clear hq hcell hc hc37
 obtain ⟨hB1, hR1, hs1⟩ := boxed_new w q 134
 go_enter Tryz.func156, Tryz.ntmps156
 go_upto_region 1 with fail
 obtain ⟨w1, hw1⟩ : ∃ W, w.alloc (.cells (q).toArray 134) = W := ⟨_, rfl⟩
 rw [hw1] at hB1 hR1 hs1 ⊢
 have h1 := h.below hB1
 have hXl := h.lt
 clear hw1
 have cB1 := cB w1 (hb.trans (hB1.mono hb.size)) h1
 try simp only [Act.put]
 refine pl_begin ?_
 refine pl_t 4 (?_) (by rfl) ?_ rfl ?_
 rotate_left
 ·go_simp
  try with_reducible rfl
 simp only [nz]
 refine pl_t 5 (?_) (by rfl) ?_ rfl ?_
 rotate_left
 ·go_simp
  try with_reducible rfl
 simp only [nz]
 refine pl_t 6 (.agg [.bool qb, .slice a xs.length cap].toArray) (by rfl) (ex_mid rfl rfl (hrr hR1).1 Tryz.underlying24 rfl iszBa) rfl ?_
 simp only [nz]
 refine pl_call (d := some 7) (by rfl) (by go_simp; first | done | exact ⟨rfl, rfl⟩ | with_reducible rfl) rfl ?_
 refine (cB1).mono ?_
 rintro _ w2 ⟨v2, rfl, hW2, hO2, hr2⟩
 refine ⟨_, rfl, ?_⟩
 simp only [nz]
 refine pl_nil ?_
 have hR2 := wr_kept h hs1 hO2 hR1
 have T := wr_trans (Off.of_below hB1) (rowon_refl w v) hO2 hr2
 have hb2 := hb.trans (wr_low h hX T.1)
 have cC2 := cC v2 w2 hb2 hW2
 clear cB cC cB1
 go_upto_region 2 with fail
 try simp only [Act.put]
 refine pl_begin ?_
 refine pl_t 8 (?_) (by rfl) ?_ rfl ?_
 rotate_left
 ·go_simp
  try with_reducible rfl
 simp only [nz]
 refine pl_t 9 (?_) (by rfl) ?_ rfl ?_
 rotate_left
 ·go_simp
  try with_reducible rfl
 simp only [nz]
 refine pl_t 10 (.agg c.toArray) (by rfl) (ex_mid rfl rfl (hrr hR2).2 Tryz.underlying31 rfl hic) rfl ?_
 simp only [nz]
 refine pl_call (d := some 11) (by rfl) (by go_simp; first | done | exact ⟨rfl, rfl⟩ | with_reducible rfl) rfl ?_
 refine (cC2).mono ?_
 rintro _ w3 hfin
 have HF := hide (WrOn.next T.1 T.2 hfin)
 obtain ⟨v3, rfl, g1, g2, g3⟩ := hfin
 refine ⟨_, rfl, ?_⟩
 simp only [nz]
 refine pl_nil ?_
 go_wp2_with fail
 go_end0
 exact HF.out
set_option maxRecDepth 100000 in
set_option maxHeartbeats 2000000 in
theorem wchange_on (X : Nat) (v : Value) (zs : List Int) (e l vw : Int) (x : Sl Hd) (w0 w : World) (he : e ≤ 9223372036854775807) (hle : l ≤ 9223372036854775807) (hv : vw ≤ 9223372036854775807) (hx : HdsAt w0 x) (hb : Below w0.heap.size w0 w) (hX : w0.heap.size ≤ X) (hxl : x.xs.length ≤ 1000) (hq : ∀ g ∈ x.xs, g.sg.xs.length ≤ 1000 ∧ g.rs.xs.length ≤ 200 ∧ ∀ r ∈ g.rs.xs, r.s.size ≤ 4000) (h : WrAt w X v zs false) (hl : zs.length + ([e, l, vw].flatMap putL ++ hdsL x.xs).length ≤ 4194304) : Calls Tryz.prog 126 #[.pointer (some ⟨X, 0, none⟩), .agg #[.int .i64 e, .int .i64 l, .int .i64 vw, x.val]] w fun e' w' => WrOn X v zs ([e, l, vw].flatMap putL ++ hdsL x.xs) w e' w' := by
 rw [List.length_append] at hl
 have cH := fun v' w' (hb' : Below w0.heap.size w0 w') (h' : WrAt w' X v' (zs ++ [e, l, vw].flatMap putL) false) => wlistH_on X v' (zs ++ [e, l, vw].flatMap putL) x w0 w' hx.1 hb' hX h' hxl (fun g hg v2 zs2 w2 hb2 h2 hl2 => wheld_on X v2 zs2 g w0 w2 (hx.1.2.1 g hg) (hx.2 g hg) hb2 hX (hq g hg).1 (hq g hg).2.1 (hq g hg).2.2 h2 hl2) (by rw [List.length_append]; exact (by unfold hdsL at hl; omega))
 have cN := fun w' (h' : WrAt w' X v zs false) => nums_on X v zs [e, l, vw] #[.int .i64 e, .int .i64 l, .int .i64 vw] 3 w' h' rfl rfl (by omega) (by
  intro n hn
  simp only [List.mem_cons, List.not_mem_nil, or_false] at hn
  rcases hn with rfl | rfl | rfl <;> assumption) (by omega)
 generalize [e, l, vw].flatMap putL = b1 at *
 unfold hdsL at *
 generalize putL (x.xs.length : Int) ++ x.xs.flatMap hdL = b2 at *
 obtain ⟨a, cap, xs⟩ := x
 simp only [Sl.val] at *
 obtain ⟨hB1, hR1, hs1⟩ := boxed_new w [.int .i64 e, .int .i64 l, .int .i64 vw, .slice a xs.length cap] 60
 go_enter Tryz.func126, Tryz.ntmps126
 go_upto_region 1 with fail
 obtain ⟨w1, hw1⟩ : ∃ W, w.alloc (.cells ([.int .i64 e, .int .i64 l, .int .i64 vw, .slice a xs.length cap]).toArray 60) = W := ⟨_, rfl⟩
 rw [hw1] at hB1 hR1 hs1 ⊢
 have h1 := h.below hB1
 have hXl := h.lt
 clear hw1
 have cN1 := cN w1 h1
 have d0 := hR1 0 _ rfl
 have d1 := hR1 1 _ rfl
 have d2 := hR1 2 _ rfl
 simp only [Nat.zero_add, Nat.add_zero] at d0 d1 d2
 try simp only [Act.put]
 refine pl_begin ?_
 refine pl_t 4 (?_) (by rfl) ?_ rfl ?_
 rotate_left
 ·go_simp
  try with_reducible rfl
 simp only [nz]
 refine pl_t 5 (?_) (by rfl) ?_ rfl ?_
 rotate_left
 ·go_simp
  try with_reducible rfl
 simp only [nz]
 refine pl_t 6 (.int .i64 e) (by rfl) (pl_one rfl rfl d0 Tryz.underlying3 rfl) rfl ?_
 simp only [nz]
 refine pl_t 7 (?_) (by rfl) ?_ rfl ?_
 rotate_left
 ·go_simp
  try with_reducible rfl
 simp only [nz]
 refine pl_t 8 (.int .i64 l) (by rfl) (pl_one rfl rfl d1 Tryz.underlying3 rfl) rfl ?_
 simp only [nz]
 refine pl_t 9 (?_) (by rfl) ?_ rfl ?_
 rotate_left
 ·go_simp
  try with_reducible rfl
 simp only [nz]
 refine pl_t 10 (.int .i64 vw) (by rfl) (pl_one rfl rfl d2 Tryz.underlying3 rfl) rfl ?_
 simp only [nz]
 refine pl_run (d := some 11) (v := .slice (some ⟨w1.heap.size, 0, none⟩) 3 3) (w' := w1.alloc (.cells #[.int .i64 e, .int .i64 l, .int .i64 vw] 3)) (by rfl) (ex_bsi3 rfl rfl rfl rfl (run_bsi3 e l vw _)) rfl ?_
 simp only [nz]
 refine pl_call (d := some 12) (by rfl) (by go_simp; first | done | exact ⟨rfl, rfl⟩ | with_reducible rfl) rfl ?_
 refine (cN1).mono ?_
 rintro _ w2 ⟨v2, rfl, hW2, hO2, hr2⟩
 refine ⟨_, rfl, ?_⟩
 simp only [nz]
 refine pl_nil ?_
 have hR2 := wr_kept h hs1 hO2 hR1
 have T := wr_trans (Off.of_below hB1) (rowon_refl w v) hO2 hr2
 have hb2 := hb.trans (wr_low h hX T.1)
 have cH2 := cH v2 w2 hb2 hW2
 have d3 := hR2 3 _ rfl
 simp only [Nat.zero_add] at d3
 clear cH cN cN1
 go_upto_region 2 with fail
 try simp only [Act.put]
 refine pl_begin ?_
 refine pl_t 13 (?_) (by rfl) ?_ rfl ?_
 rotate_left
 ·go_simp
  try with_reducible rfl
 simp only [nz]
 refine pl_t 14 (?_) (by rfl) ?_ rfl ?_
 rotate_left
 ·go_simp
  try with_reducible rfl
 simp only [nz]
 refine pl_t 15 (.slice a xs.length cap) (by rfl) (pl_one rfl rfl d3 Tryz.underlying58 rfl) rfl ?_
 simp only [nz]
 refine pl_t 16 (?_) (by rfl) ?_ rfl ?_
 rotate_left
 ·go_simp
  try with_reducible rfl
 simp only [nz]
 refine pl_t 17 (?_) (by rfl) ?_ rfl ?_
 rotate_left
 ·go_simp
  try with_reducible rfl
 simp only [nz]
 refine pl_call (d := some 18) (by rfl) (by go_simp; first | done | exact ⟨rfl, rfl⟩ | with_reducible rfl) rfl ?_
 refine (cH2).mono ?_
 rintro _ w3 hfin
 have HF := hide (WrOn.next T.1 T.2 hfin)
 obtain ⟨v3, rfl, g1, g2, g3⟩ := hfin
 refine ⟨_, rfl, ?_⟩
 simp only [nz]
 refine pl_nil ?_
 go_wp2_with fail
 go_end0
 exact HF.out
def Mg.body (m : Mg) : List Int :=
  if m.k = 1 then [m.e, m.s].flatMap putL ++ batL m.q (m.rs.xs.map BRq.of)
  else if m.k = 2 then vtL m.vt
  else if m.k = 3 then [m.ce, m.cl, m.cv].flatMap putL ++ hdsL m.he.xs
  else if m.k = 4 then [m.e, m.l, m.v].flatMap putL ++ evsL m.ne.xs
  else if m.k = 5 then putL m.e ++ m.d
  else if m.k = 6 then [m.e, m.s].flatMap putL
  else if m.k = 7 then batL m.q (m.rs.xs.map BRq.of) ++ ctL m.ct m.cs.xs
  else textL m.st ++ sgsL m.sg.xs
def Mg.bytes (m : Mg) : List Int := putL m.k ++ m.body
structure Mg.Fine (m : Mg) : Prop where
  e : m.e ≤ 9223372036854775807
  l : m.l ≤ 9223372036854775807
  v : m.v ≤ 9223372036854775807
  s : m.s ≤ 9223372036854775807
  ce : m.ce ≤ 9223372036854775807
  cl : m.cl ≤ 9223372036854775807
  cv : m.cv ≤ 9223372036854775807
  rn : m.rs.xs.length ≤ 200
  rs : ∀ r ∈ m.rs.xs, r.s.size ≤ 4000
  hn : m.he.xs.length ≤ 1000
  he : ∀ g ∈ m.he.xs, g.sg.xs.length ≤ 1000 ∧ g.rs.xs.length ≤ 200 ∧ ∀ r ∈ g.rs.xs, r.s.size ≤ 4000
  nn : m.ne.xs.length ≤ 1000
  ne : ∀ g ∈ m.ne.xs, g.s.size ≤ 1000000
  cn : m.cs.xs.length ≤ 1000
  gn : m.sg.xs.length ≤ 1000
  st : m.st.size ≤ 1000000
  all : m.bytes.length ≤ 40000
theorem one_two_three {a b c : Int} (h1 : a ≤ 9223372036854775807) (h2 : b ≤ 9223372036854775807) (h3 : c ≤ 9223372036854775807) : ∀ z ∈ [a, b, c], z ≤ 9223372036854775807 := by
 intro n hn
 simp only [List.mem_cons, List.not_mem_nil, or_false] at hn
 rcases hn with rfl | rfl | rfl <;> assumption
set_option maxRecDepth 100000 in
set_option maxHeartbeats 2000000 in
theorem wm1_on (X : Nat) (v : Value) (zs : List Int) (m : Mg) (w0 w : World) (om : m.ok) (am : m.At w0) (hf : m.Fine) (hk : m.k = 1) (hb : Below w0.heap.size w0 w) (hX : w0.heap.size ≤ X) (h : WrAt w X v zs false) (hz : zs.length ≤ 100000) : Calls Tryz.prog 85 #[.pointer (some ⟨X, 0, none⟩), .agg m.ms.cells.toArray] w fun e w' => WrOn X v zs m.bytes w e w' := by
 have hall := hf.all
 have hbd : m.bytes = putL 1 ++ m.body := by unfold Mg.bytes; rw [hk]
 rw [hbd, List.length_append] at hall
 rw [hbd]
 clear hbd
 have hat : ∀ {w' : World} {b : Nat}, w'.rangeAt b 0 m.ms.cells → m.ms.at w' b := fun hr => om.ms.at hr
 have hkk : m.ms.k = 1 := hk
 have hbody : m.body = [m.e, m.s].flatMap putL ++ batL m.q (m.rs.xs.map BRq.of) := by unfold Mg.body; rw [hk]; rfl
 rw [hbody, List.length_append] at hall
 obtain ⟨q, hq⟩ : ∃ q, Hid (m.ms.cells = q) := ⟨_, hide rfl⟩
 rw [hq.out]
 simp only [hq.out] at hat
 clear hq
 obtain ⟨hB1, hR1, hs1⟩ := boxed_new w q 63
 go_enter Tryz.func85, Tryz.ntmps85
 go_upto_region 1 with fail
 obtain ⟨w1, hw1⟩ : ∃ W, w.alloc (.cells q.toArray 63) = W := ⟨_, rfl⟩
 rw [hw1] at hB1 hR1 hs1 ⊢
 have h1 := h.below hB1
 have hXl := h.lt
 clear hw1
 have MA := hat hR1
 have ck := MA.k
 rw [hkk] at ck
 try simp only [Act.put]
 refine pl_begin ?_
 refine pl_t 4 (?_) (by rfl) ?_ rfl ?_
 rotate_left
 ·go_simp
  try with_reducible rfl
 simp only [nz]
 refine pl_t 5 (?_) (by rfl) ?_ rfl ?_
 rotate_left
 ·go_simp
  try with_reducible rfl
 simp only [nz]
 refine pl_t 6 (.int .i64 1) (by rfl) (pl_one rfl rfl ck Tryz.underlying3 rfl) rfl ?_
 simp only [nz]
 refine pl_run (d := some 7) (v := .slice (some ⟨w1.heap.size, 0, none⟩) 1 1) (w' := w1.alloc (.cells #[.int .i64 1] 3)) (by rfl) (ex_bsi rfl rfl (run_bsi 1 _)) rfl ?_
 simp only [nz]
 refine pl_call (d := some 8) (by rfl) (by go_simp; first | done | exact ⟨rfl, rfl⟩ | with_reducible rfl) rfl ?_
 refine (nums_on X v zs [1] _ 1 w1 h1 rfl rfl (by omega) (one_le (by decide)) (by simp; omega)).mono ?_
 rintro _ w2 ⟨v2, rfl, hW2, hO2, hr2⟩
 refine ⟨_, rfl, ?_⟩
 simp only [nz]
 refine pl_nil ?_
 have hR2 := wr_kept h hs1 hO2 hR1
 have T := wr_trans (Off.of_below hB1) (rowon_refl w v) hO2 hr2
 have hb2 := hb.trans (wr_low h hX T.1)
 have hW2 : WrAt w2 X v2 (zs ++ putL 1) false := by simpa using hW2
 have MA := hat hR2
 have ck := MA.k
 rw [hkk] at ck
 have HF0 : ∀ {v' : Value} {e' : Ending} {w' wz : World}, Off (WrF X v) w wz → RowOn w v v' → WrOn X v' (zs ++ putL 1 ++ [m.e, m.s].flatMap putL) (batL m.q (m.rs.xs.map BRq.of)) wz e' w' → WrOn X v zs (putL 1 ++ m.body) w e' w' := fun o r q => by
  rw [hbody, ← List.append_assoc]
  rw [List.append_assoc zs] at q
  exact WrOn.next o r q
 have cN := nums_on X v2 (zs ++ putL 1) [m.e, m.s] #[.int .i64 m.e, .int .i64 m.s] 2 w2 hW2 rfl rfl (by omega) (two_le hf.e hf.s) (by rw [List.length_append]; omega)
 have cB := fun v' w' (hb' : Below w0.heap.size w0 w') (h' : WrAt w' X v' (zs ++ putL 1 ++ [m.e, m.s].flatMap putL) false) => wbatch_on X v' (zs ++ putL 1 ++ [m.e, m.s].flatMap putL) m.q m.rs w' (am.rs.below hb') h' hf.rn hf.rs (by simp only [List.length_append]; omega)
 have de := MA.e
 have ds := MA.s
 go_upto_region 4 with fail
 try simp only [Act.put]
 refine pl_begin ?_
 refine pl_t 13 (?_) (by rfl) ?_ rfl ?_
 rotate_left
 ·go_simp
  try with_reducible rfl
 simp only [nz]
 refine pl_t 14 (?_) (by rfl) ?_ rfl ?_
 rotate_left
 ·go_simp
  try with_reducible rfl
 simp only [nz]
 refine pl_t 15 (.int .i64 m.e) (by rfl) (pl_one rfl rfl de Tryz.underlying3 rfl) rfl ?_
 simp only [nz]
 refine pl_t 16 (?_) (by rfl) ?_ rfl ?_
 rotate_left
 ·go_simp
  try with_reducible rfl
 simp only [nz]
 refine pl_t 17 (.int .i64 m.s) (by rfl) (pl_one rfl rfl ds Tryz.underlying3 rfl) rfl ?_
 simp only [nz]
 refine pl_run (d := some 18) (v := .slice (some ⟨w2.heap.size, 0, none⟩) 2 2) (w' := w2.alloc (.cells #[.int .i64 m.e, .int .i64 m.s] 3)) (by rfl) (ex_bsi2 rfl rfl rfl (run_bsi2 m.e m.s _)) rfl ?_
 simp only [nz]
 refine pl_call (d := some 19) (by rfl) (by go_simp; first | done | exact ⟨rfl, rfl⟩ | with_reducible rfl) rfl ?_
 refine (cN).mono ?_
 rintro _ w3 ⟨v3, rfl, hW3, hO3, hr3⟩
 refine ⟨_, rfl, ?_⟩
 simp only [nz]
 refine pl_nil ?_
 have T12 := wr_trans hO2 hr2 hO3 hr3
 have hR3 := wr_kept h hs1 T12.1 hR1
 have T := wr_trans T.1 T.2 hO3 hr3
 have hb3 := hb.trans (wr_low h hX T.1)
 have MA := hat hR3
 have cB3 := cB v3 w3 hb3 hW3
 have rb : w3.rangeAt w.heap.size 5 [.bool m.q, m.rs.val] := fun j u hj => by
  rcases j with _ | _ | j
  ·cases hj; exact MA.q
  ·cases hj; exact MA.rs
  ·cases hj
 clear cB cN
 go_upto_region 5 with fail
 try simp only [Act.put]
 refine pl_begin ?_
 refine pl_t 20 (?_) (by rfl) ?_ rfl ?_
 rotate_left
 ·go_simp
  try with_reducible rfl
 simp only [nz]
 refine pl_t 21 (?_) (by rfl) ?_ rfl ?_
 rotate_left
 ·go_simp
  try with_reducible rfl
 simp only [nz]
 refine pl_t 22 (.agg [.bool m.q, m.rs.val].toArray) (by rfl) (ex_mid rfl rfl rb Tryz.underlying24 rfl iszBa) rfl ?_
 simp only [nz]
 refine pl_call (d := some 23) (by rfl) (by go_simp; first | done | exact ⟨rfl, rfl⟩ | with_reducible rfl) rfl ?_
 refine (cB3).mono ?_
 rintro _ w4 hfin
 have HF := hide (HF0 T.1 T.2 hfin)
 obtain ⟨v9, rfl, g1, g2, g3⟩ := hfin
 refine ⟨_, rfl, ?_⟩
 simp only [nz]
 refine pl_nil ?_
 go_wp2_with fail
 go_end0
 exact HF.out
set_option maxRecDepth 100000 in
set_option maxHeartbeats 2000000 in
theorem wm2_on (X : Nat) (v : Value) (zs : List Int) (m : Mg) (w0 w : World) (om : m.ok) (am : m.At w0) (hf : m.Fine) (hk : m.k = 2) (hb : Below w0.heap.size w0 w) (hX : w0.heap.size ≤ X) (h : WrAt w X v zs false) (hz : zs.length ≤ 100000) : Calls Tryz.prog 85 #[.pointer (some ⟨X, 0, none⟩), .agg m.ms.cells.toArray] w fun e w' => WrOn X v zs m.bytes w e w' := by
 have hall := hf.all
 have hbd : m.bytes = putL 2 ++ m.body := by unfold Mg.bytes; rw [hk]
 rw [hbd, List.length_append] at hall
 rw [hbd]
 clear hbd
 have hat : ∀ {w' : World} {b : Nat}, w'.rangeAt b 0 m.ms.cells → m.ms.at w' b := fun hr => om.ms.at hr
 have hkk : m.ms.k = 2 := hk
 have hbody : m.body = vtL m.vt := by unfold Mg.body; rw [hk]; rfl
 rw [hbody] at hall
 obtain ⟨q, hq⟩ : ∃ q, Hid (m.ms.cells = q) := ⟨_, hide rfl⟩
 rw [hq.out]
 simp only [hq.out] at hat
 clear hq
 obtain ⟨hB1, hR1, hs1⟩ := boxed_new w q 63
 go_enter Tryz.func85, Tryz.ntmps85
 go_upto_region 1 with fail
 obtain ⟨w1, hw1⟩ : ∃ W, w.alloc (.cells q.toArray 63) = W := ⟨_, rfl⟩
 rw [hw1] at hB1 hR1 hs1 ⊢
 have h1 := h.below hB1
 have hXl := h.lt
 clear hw1
 have MA := hat hR1
 have ck := MA.k
 rw [hkk] at ck
 try simp only [Act.put]
 refine pl_begin ?_
 refine pl_t 4 (?_) (by rfl) ?_ rfl ?_
 rotate_left
 ·go_simp
  try with_reducible rfl
 simp only [nz]
 refine pl_t 5 (?_) (by rfl) ?_ rfl ?_
 rotate_left
 ·go_simp
  try with_reducible rfl
 simp only [nz]
 refine pl_t 6 (.int .i64 2) (by rfl) (pl_one rfl rfl ck Tryz.underlying3 rfl) rfl ?_
 simp only [nz]
 refine pl_run (d := some 7) (v := .slice (some ⟨w1.heap.size, 0, none⟩) 1 1) (w' := w1.alloc (.cells #[.int .i64 2] 3)) (by rfl) (ex_bsi rfl rfl (run_bsi 2 _)) rfl ?_
 simp only [nz]
 refine pl_call (d := some 8) (by rfl) (by go_simp; first | done | exact ⟨rfl, rfl⟩ | with_reducible rfl) rfl ?_
 refine (nums_on X v zs [2] _ 1 w1 h1 rfl rfl (by omega) (one_le (by decide)) (by simp; omega)).mono ?_
 rintro _ w2 ⟨v2, rfl, hW2, hO2, hr2⟩
 refine ⟨_, rfl, ?_⟩
 simp only [nz]
 refine pl_nil ?_
 have hR2 := wr_kept h hs1 hO2 hR1
 have T := wr_trans (Off.of_below hB1) (rowon_refl w v) hO2 hr2
 have hb2 := hb.trans (wr_low h hX T.1)
 have hW2 : WrAt w2 X v2 (zs ++ putL 2) false := by simpa using hW2
 have MA := hat hR2
 have ck := MA.k
 rw [hkk] at ck
 have HF0 : ∀ {v' : Value} {e' : Ending} {w' wz : World}, Off (WrF X v) w wz → RowOn w v v' → WrOn X v' (zs ++ putL 2) (vtL m.vt) wz e' w' → WrOn X v zs (putL 2 ++ m.body) w e' w' := fun o r q => by rw [hbody]; exact WrOn.next o r q
 have cV := wvote_on X v2 (zs ++ putL 2) m.vt w2 om.vt hW2 (by rw [List.length_append]; omega)
 have hix : (Tryz.prog.info? 28).map (·.size) = some m.vt.cells.length := by rw [om.vt.len]; exact iszVo
 have rv := MA.vt
 have rv : w2.rangeAt w.heap.size 7 m.vt.cells := rv
 go_upto_region 7 with fail
 try simp only [Act.put]
 refine pl_begin ?_
 refine pl_t 26 (?_) (by rfl) ?_ rfl ?_
 rotate_left
 ·go_simp
  try with_reducible rfl
 simp only [nz]
 refine pl_t 27 (?_) (by rfl) ?_ rfl ?_
 rotate_left
 ·go_simp
  try with_reducible rfl
 simp only [nz]
 refine pl_t 28 (.agg m.vt.cells.toArray) (by rfl) (ex_mid rfl rfl rv Tryz.underlying28 rfl hix) rfl ?_
 simp only [nz]
 refine pl_call (d := some 29) (by rfl) (by go_simp; first | done | exact ⟨rfl, rfl⟩ | with_reducible rfl) rfl ?_
 refine (cV).mono ?_
 rintro _ w4 hfin
 have HF := hide (HF0 T.1 T.2 hfin)
 obtain ⟨v9, rfl, g1, g2, g3⟩ := hfin
 refine ⟨_, rfl, ?_⟩
 simp only [nz]
 refine pl_nil ?_
 go_wp2_with fail
 go_end0
 exact HF.out
set_option maxRecDepth 100000 in
set_option maxHeartbeats 2000000 in
theorem wm3_on (X : Nat) (v : Value) (zs : List Int) (m : Mg) (w0 w : World) (om : m.ok) (am : m.At w0) (hf : m.Fine) (hk : m.k = 3) (hb : Below w0.heap.size w0 w) (hX : w0.heap.size ≤ X) (h : WrAt w X v zs false) (hz : zs.length ≤ 100000) : Calls Tryz.prog 85 #[.pointer (some ⟨X, 0, none⟩), .agg m.ms.cells.toArray] w fun e w' => WrOn X v zs m.bytes w e w' := by
 have hall := hf.all
 have hbd : m.bytes = putL 3 ++ m.body := by unfold Mg.bytes; rw [hk]
 rw [hbd, List.length_append] at hall
 rw [hbd]
 clear hbd
 have hat : ∀ {w' : World} {b : Nat}, w'.rangeAt b 0 m.ms.cells → m.ms.at w' b := fun hr => om.ms.at hr
 have hkk : m.ms.k = 3 := hk
 have hbody : m.body = [m.ce, m.cl, m.cv].flatMap putL ++ hdsL m.he.xs := by unfold Mg.body; rw [hk]; rfl
 rw [hbody] at hall
 obtain ⟨q, hq⟩ : ∃ q, Hid (m.ms.cells = q) := ⟨_, hide rfl⟩
 rw [hq.out]
 simp only [hq.out] at hat
 clear hq
 obtain ⟨hB1, hR1, hs1⟩ := boxed_new w q 63
 go_enter Tryz.func85, Tryz.ntmps85
 go_upto_region 1 with fail
 obtain ⟨w1, hw1⟩ : ∃ W, w.alloc (.cells q.toArray 63) = W := ⟨_, rfl⟩
 rw [hw1] at hB1 hR1 hs1 ⊢
 have h1 := h.below hB1
 have hXl := h.lt
 clear hw1
 have MA := hat hR1
 have ck := MA.k
 rw [hkk] at ck
 try simp only [Act.put]
 refine pl_begin ?_
 refine pl_t 4 (?_) (by rfl) ?_ rfl ?_
 rotate_left
 ·go_simp
  try with_reducible rfl
 simp only [nz]
 refine pl_t 5 (?_) (by rfl) ?_ rfl ?_
 rotate_left
 ·go_simp
  try with_reducible rfl
 simp only [nz]
 refine pl_t 6 (.int .i64 3) (by rfl) (pl_one rfl rfl ck Tryz.underlying3 rfl) rfl ?_
 simp only [nz]
 refine pl_run (d := some 7) (v := .slice (some ⟨w1.heap.size, 0, none⟩) 1 1) (w' := w1.alloc (.cells #[.int .i64 3] 3)) (by rfl) (ex_bsi rfl rfl (run_bsi 3 _)) rfl ?_
 simp only [nz]
 refine pl_call (d := some 8) (by rfl) (by go_simp; first | done | exact ⟨rfl, rfl⟩ | with_reducible rfl) rfl ?_
 refine (nums_on X v zs [3] _ 1 w1 h1 rfl rfl (by omega) (one_le (by decide)) (by simp; omega)).mono ?_
 rintro _ w2 ⟨v2, rfl, hW2, hO2, hr2⟩
 refine ⟨_, rfl, ?_⟩
 simp only [nz]
 refine pl_nil ?_
 have hR2 := wr_kept h hs1 hO2 hR1
 have T := wr_trans (Off.of_below hB1) (rowon_refl w v) hO2 hr2
 have hb2 := hb.trans (wr_low h hX T.1)
 have hW2 : WrAt w2 X v2 (zs ++ putL 3) false := by simpa using hW2
 have MA := hat hR2
 have ck := MA.k
 rw [hkk] at ck
 have HF0 : ∀ {v' : Value} {e' : Ending} {w' wz : World}, Off (WrF X v) w wz → RowOn w v v' → WrOn X v' (zs ++ putL 3) ([m.ce, m.cl, m.cv].flatMap putL ++ hdsL m.he.xs) wz e' w' → WrOn X v zs (putL 3 ++ m.body) w e' w' := fun o r q => by rw [hbody]; exact WrOn.next o r q
 have cV := wchange_on X v2 (zs ++ putL 3) m.ce m.cl m.cv m.he w0 w2 hf.ce hf.cl hf.cv am.he hb2 hX hf.hn hf.he hW2 (by rw [List.length_append]; omega)
 have rc : w2.rangeAt w.heap.size 43 [.int .i64 m.ce, .int .i64 m.cl, .int .i64 m.cv, m.he.val] := fun j u hj => by
  rcases j with _ | _ | _ | _ | j
  ·cases hj; exact MA.ce
  ·cases hj; exact MA.cl
  ·cases hj; exact MA.cv
  ·cases hj; exact MA.he
  ·cases hj
 go_upto_region 9 with fail
 try simp only [Act.put]
 refine pl_begin ?_
 refine pl_t 32 (?_) (by rfl) ?_ rfl ?_
 rotate_left
 ·go_simp
  try with_reducible rfl
 simp only [nz]
 refine pl_t 33 (?_) (by rfl) ?_ rfl ?_
 rotate_left
 ·go_simp
  try with_reducible rfl
 simp only [nz]
 refine pl_t 34 (.agg [.int .i64 m.ce, .int .i64 m.cl, .int .i64 m.cv, m.he.val].toArray) (by rfl) (ex_mid rfl rfl rc Tryz.underlying60 rfl iszCh) rfl ?_
 simp only [nz]
 refine pl_call (d := some 35) (by rfl) (by go_simp; first | done | exact ⟨rfl, rfl⟩ | with_reducible rfl) rfl ?_
 refine (cV).mono ?_
 rintro _ w4 hfin
 have HF := hide (HF0 T.1 T.2 hfin)
 obtain ⟨v9, rfl, g1, g2, g3⟩ := hfin
 refine ⟨_, rfl, ?_⟩
 simp only [nz]
 refine pl_nil ?_
 go_wp2_with fail
 go_end0
 exact HF.out
set_option maxRecDepth 100000 in
set_option maxHeartbeats 2000000 in
theorem wm4_on (X : Nat) (v : Value) (zs : List Int) (m : Mg) (w0 w : World) (om : m.ok) (am : m.At w0) (hf : m.Fine) (hk : m.k = 4) (hb : Below w0.heap.size w0 w) (hX : w0.heap.size ≤ X) (h : WrAt w X v zs false) (hz : zs.length ≤ 100000) : Calls Tryz.prog 85 #[.pointer (some ⟨X, 0, none⟩), .agg m.ms.cells.toArray] w fun e w' => WrOn X v zs m.bytes w e w' := by
 have hall := hf.all
 have hbd : m.bytes = putL 4 ++ m.body := by unfold Mg.bytes; rw [hk]
 rw [hbd, List.length_append] at hall
 rw [hbd]
 clear hbd
 have hat : ∀ {w' : World} {b : Nat}, w'.rangeAt b 0 m.ms.cells → m.ms.at w' b := fun hr => om.ms.at hr
 have hkk : m.ms.k = 4 := hk
 have hbody : m.body = [m.e, m.l, m.v].flatMap putL ++ evsL m.ne.xs := by unfold Mg.body; rw [hk]; rfl
 rw [hbody, List.length_append] at hall
 obtain ⟨q, hq⟩ : ∃ q, Hid (m.ms.cells = q) := ⟨_, hide rfl⟩
 rw [hq.out]
 simp only [hq.out] at hat
 clear hq
 obtain ⟨hB1, hR1, hs1⟩ := boxed_new w q 63
 go_enter Tryz.func85, Tryz.ntmps85
 go_upto_region 1 with fail
 obtain ⟨w1, hw1⟩ : ∃ W, w.alloc (.cells q.toArray 63) = W := ⟨_, rfl⟩
 rw [hw1] at hB1 hR1 hs1 ⊢
 have h1 := h.below hB1
 have hXl := h.lt
 clear hw1
 have MA := hat hR1
 have ck := MA.k
 rw [hkk] at ck
 try simp only [Act.put]
 refine pl_begin ?_
 refine pl_t 4 (?_) (by rfl) ?_ rfl ?_
 rotate_left
 ·go_simp
  try with_reducible rfl
 simp only [nz]
 refine pl_t 5 (?_) (by rfl) ?_ rfl ?_
 rotate_left
 ·go_simp
  try with_reducible rfl
 simp only [nz]
 refine pl_t 6 (.int .i64 4) (by rfl) (pl_one rfl rfl ck Tryz.underlying3 rfl) rfl ?_
 simp only [nz]
 refine pl_run (d := some 7) (v := .slice (some ⟨w1.heap.size, 0, none⟩) 1 1) (w' := w1.alloc (.cells #[.int .i64 4] 3)) (by rfl) (ex_bsi rfl rfl (run_bsi 4 _)) rfl ?_
 simp only [nz]
 refine pl_call (d := some 8) (by rfl) (by go_simp; first | done | exact ⟨rfl, rfl⟩ | with_reducible rfl) rfl ?_
 refine (nums_on X v zs [4] _ 1 w1 h1 rfl rfl (by omega) (one_le (by decide)) (by simp; omega)).mono ?_
 rintro _ w2 ⟨v2, rfl, hW2, hO2, hr2⟩
 refine ⟨_, rfl, ?_⟩
 simp only [nz]
 refine pl_nil ?_
 have hR2 := wr_kept h hs1 hO2 hR1
 have T := wr_trans (Off.of_below hB1) (rowon_refl w v) hO2 hr2
 have hb2 := hb.trans (wr_low h hX T.1)
 have hW2 : WrAt w2 X v2 (zs ++ putL 4) false := by simpa using hW2
 have MA := hat hR2
 have ck := MA.k
 rw [hkk] at ck
 have HF0 : ∀ {v' : Value} {e' : Ending} {w' wz : World}, Off (WrF X v) w wz → RowOn w v v' → WrOn X v' (zs ++ putL 4 ++ [m.e, m.l, m.v].flatMap putL) (evsL m.ne.xs) wz e' w' → WrOn X v zs (putL 4 ++ m.body) w e' w' := fun o r q => by
  rw [hbody, ← List.append_assoc]
  rw [List.append_assoc zs] at q
  exact WrOn.next o r q
 have cN := nums_on X v2 (zs ++ putL 4) [m.e, m.l, m.v] #[.int .i64 m.e, .int .i64 m.l, .int .i64 m.v] 3 w2 hW2 rfl rfl (by omega) (one_two_three hf.e hf.l hf.v) (by rw [List.length_append]; omega)
 have cE := fun v' w' (hb' : Below w0.heap.size w0 w') (h' : WrAt w' X v' (zs ++ putL 4 ++ [m.e, m.l, m.v].flatMap putL) false) => wlistE_on X v' (zs ++ putL 4 ++ [m.e, m.l, m.v].flatMap putL) m.ne w0 w' am.ne hb' hX h' hf.nn (fun g hg v3 zs3 w3 _ h3 hl3 => wenv_on X v3 zs3 g (am.ne.2.1 g hg) (hf.ne g hg) w3 h3 hl3) (by unfold evsL at hall; simp only [List.length_append] at hall ⊢; omega)
 have de := MA.e
 have dl := MA.l
 have dv := MA.v
 go_upto_region 11 with fail
 try simp only [Act.put]
 refine pl_begin ?_
 refine pl_t 38 (?_) (by rfl) ?_ rfl ?_
 rotate_left
 ·go_simp
  try with_reducible rfl
 simp only [nz]
 refine pl_t 39 (?_) (by rfl) ?_ rfl ?_
 rotate_left
 ·go_simp
  try with_reducible rfl
 simp only [nz]
 refine pl_t 40 (.int .i64 m.e) (by rfl) (pl_one rfl rfl de Tryz.underlying3 rfl) rfl ?_
 simp only [nz]
 refine pl_t 41 (?_) (by rfl) ?_ rfl ?_
 rotate_left
 ·go_simp
  try with_reducible rfl
 simp only [nz]
 refine pl_t 42 (.int .i64 m.l) (by rfl) (pl_one rfl rfl dl Tryz.underlying3 rfl) rfl ?_
 simp only [nz]
 refine pl_t 43 (?_) (by rfl) ?_ rfl ?_
 rotate_left
 ·go_simp
  try with_reducible rfl
 simp only [nz]
 refine pl_t 44 (.int .i64 m.v) (by rfl) (pl_one rfl rfl dv Tryz.underlying3 rfl) rfl ?_
 simp only [nz]
 refine pl_run (d := some 45) (v := .slice (some ⟨w2.heap.size, 0, none⟩) 3 3) (w' := w2.alloc (.cells #[.int .i64 m.e, .int .i64 m.l, .int .i64 m.v] 3)) (by rfl) (ex_bsi3 rfl rfl rfl rfl (run_bsi3 m.e m.l m.v _)) rfl ?_
 simp only [nz]
 refine pl_call (d := some 46) (by rfl) (by go_simp; first | done | exact ⟨rfl, rfl⟩ | with_reducible rfl) rfl ?_
 refine (cN).mono ?_
 rintro _ w3 ⟨v3, rfl, hW3, hO3, hr3⟩
 refine ⟨_, rfl, ?_⟩
 simp only [nz]
 refine pl_nil ?_
 have T12 := wr_trans hO2 hr2 hO3 hr3
 have hR3 := wr_kept h hs1 T12.1 hR1
 have T := wr_trans T.1 T.2 hO3 hr3
 have hb3 := hb.trans (wr_low h hX T.1)
 have MA := hat hR3
 have cE3 := cE v3 w3 hb3 hW3
 have dn := MA.ne
 have dn : w3.cell? ⟨w.heap.size, 47, none⟩ = some m.ne.val := dn
 unfold evsL at HF0
 clear cE cN
 go_upto_region 12 with fail
 try simp only [Act.put]
 refine pl_begin ?_
 refine pl_t 47 (?_) (by rfl) ?_ rfl ?_
 rotate_left
 ·go_simp
  try with_reducible rfl
 simp only [nz]
 refine pl_t 48 (?_) (by rfl) ?_ rfl ?_
 rotate_left
 ·go_simp
  try with_reducible rfl
 simp only [nz]
 refine pl_t 49 (m.ne.val) (by rfl) (pl_one rfl rfl dn Tryz.underlying61 rfl) rfl ?_
 simp only [nz]
 refine pl_t 50 (?_) (by rfl) ?_ rfl ?_
 rotate_left
 ·go_simp
  try with_reducible rfl
 simp only [nz]
 refine pl_t 51 (?_) (by rfl) ?_ rfl ?_
 rotate_left
 ·go_simp
  try with_reducible rfl
 simp only [nz]
 refine pl_call (d := some 52) (by rfl) (by go_simp; first | done | exact ⟨rfl, rfl⟩ | with_reducible rfl) rfl ?_
 refine (cE3).mono ?_
 rintro _ w4 hfin
 have HF := hide (HF0 T.1 T.2 hfin)
 obtain ⟨v9, rfl, g1, g2, g3⟩ := hfin
 refine ⟨_, rfl, ?_⟩
 simp only [nz]
 refine pl_nil ?_
 go_wp2_with fail
 go_end0
 exact HF.out
set_option maxRecDepth 100000 in
set_option maxHeartbeats 2000000 in
theorem wm5_on (X : Nat) (v : Value) (zs : List Int) (m : Mg) (w0 w : World) (om : m.ok) (am : m.At w0) (hf : m.Fine) (hk : m.k = 5) (hb : Below w0.heap.size w0 w) (hX : w0.heap.size ≤ X) (h : WrAt w X v zs false) (hz : zs.length ≤ 100000) : Calls Tryz.prog 85 #[.pointer (some ⟨X, 0, none⟩), .agg m.ms.cells.toArray] w fun e w' => WrOn X v zs m.bytes w e w' := by
 have hall := hf.all
 have hbd : m.bytes = putL 5 ++ m.body := by unfold Mg.bytes; rw [hk]
 rw [hbd, List.length_append] at hall
 rw [hbd]
 clear hbd
 have hat : ∀ {w' : World} {b : Nat}, w'.rangeAt b 0 m.ms.cells → m.ms.at w' b := fun hr => om.ms.at hr
 have hkk : m.ms.k = 5 := hk
 have hbody : m.body = putL m.e ++ m.d := by unfold Mg.body; rw [hk]; rfl
 rw [hbody, List.length_append] at hall
 obtain ⟨q, hq⟩ : ∃ q, Hid (m.ms.cells = q) := ⟨_, hide rfl⟩
 rw [hq.out]
 simp only [hq.out] at hat
 clear hq
 obtain ⟨hB1, hR1, hs1⟩ := boxed_new w q 63
 go_enter Tryz.func85, Tryz.ntmps85
 go_upto_region 1 with fail
 obtain ⟨w1, hw1⟩ : ∃ W, w.alloc (.cells q.toArray 63) = W := ⟨_, rfl⟩
 rw [hw1] at hB1 hR1 hs1 ⊢
 have h1 := h.below hB1
 have hXl := h.lt
 clear hw1
 have MA := hat hR1
 have ck := MA.k
 rw [hkk] at ck
 try simp only [Act.put]
 refine pl_begin ?_
 refine pl_t 4 (?_) (by rfl) ?_ rfl ?_
 rotate_left
 ·go_simp
  try with_reducible rfl
 simp only [nz]
 refine pl_t 5 (?_) (by rfl) ?_ rfl ?_
 rotate_left
 ·go_simp
  try with_reducible rfl
 simp only [nz]
 refine pl_t 6 (.int .i64 5) (by rfl) (pl_one rfl rfl ck Tryz.underlying3 rfl) rfl ?_
 simp only [nz]
 refine pl_run (d := some 7) (v := .slice (some ⟨w1.heap.size, 0, none⟩) 1 1) (w' := w1.alloc (.cells #[.int .i64 5] 3)) (by rfl) (ex_bsi rfl rfl (run_bsi 5 _)) rfl ?_
 simp only [nz]
 refine pl_call (d := some 8) (by rfl) (by go_simp; first | done | exact ⟨rfl, rfl⟩ | with_reducible rfl) rfl ?_
 refine (nums_on X v zs [5] _ 1 w1 h1 rfl rfl (by omega) (one_le (by decide)) (by simp; omega)).mono ?_
 rintro _ w2 ⟨v2, rfl, hW2, hO2, hr2⟩
 refine ⟨_, rfl, ?_⟩
 simp only [nz]
 refine pl_nil ?_
 have hR2 := wr_kept h hs1 hO2 hR1
 have T := wr_trans (Off.of_below hB1) (rowon_refl w v) hO2 hr2
 have hb2 := hb.trans (wr_low h hX T.1)
 have hW2 : WrAt w2 X v2 (zs ++ putL 5) false := by simpa using hW2
 have MA := hat hR2
 have ck := MA.k
 rw [hkk] at ck
 have HF0 : ∀ {v' : Value} {e' : Ending} {w' wz : World}, Off (WrF X v) w wz → RowOn w v v' → WrOn X v' (zs ++ putL 5 ++ putL m.e) m.d wz e' w' → WrOn X v zs (putL 5 ++ m.body) w e' w' := fun o r q => by
  rw [hbody, ← List.append_assoc]
  rw [List.append_assoc zs] at q
  exact WrOn.next o r q
 have cN := nums_on X v2 (zs ++ putL 5) [m.e] #[.int .i64 m.e] 1 w2 hW2 rfl rfl (by omega) (one_le hf.e) (by simp; omega)
 have de := MA.e
 go_upto_region 14 with fail
 try simp only [Act.put]
 refine pl_begin ?_
 refine pl_t 55 (?_) (by rfl) ?_ rfl ?_
 rotate_left
 ·go_simp
  try with_reducible rfl
 simp only [nz]
 refine pl_t 56 (?_) (by rfl) ?_ rfl ?_
 rotate_left
 ·go_simp
  try with_reducible rfl
 simp only [nz]
 refine pl_t 57 (.int .i64 m.e) (by rfl) (pl_one rfl rfl de Tryz.underlying3 rfl) rfl ?_
 simp only [nz]
 refine pl_run (d := some 58) (v := .slice (some ⟨w2.heap.size, 0, none⟩) 1 1) (w' := w2.alloc (.cells #[.int .i64 m.e] 3)) (by rfl) (ex_bsi rfl rfl (run_bsi m.e _)) rfl ?_
 simp only [nz]
 refine pl_call (d := some 59) (by rfl) (by go_simp; first | done | exact ⟨rfl, rfl⟩ | with_reducible rfl) rfl ?_
 refine (cN).mono ?_
 rintro _ w3 ⟨v3, rfl, hW3, hO3, hr3⟩
 refine ⟨_, rfl, ?_⟩
 simp only [nz]
 refine pl_nil ?_
 have T12 := wr_trans hO2 hr2 hO3 hr3
 have hR3 := wr_kept h hs1 T12.1 hR1
 have T := wr_trans T.1 T.2 hO3 hr3
 have hb3 := hb.trans (wr_low h hX T.1)
 have MA := hat hR3
 have hW3 : WrAt w3 X v3 (zs ++ putL 5 ++ putL m.e) false := by simpa using hW3
 have rd := MA.d
 have rd : w3.rangeAt w.heap.size 48 (v8 m.d) := rd
 have hd32 := om.dl
 have hdb := om.db
 have hs3 := hO3.size
 have hs2 := hO2.size
 obtain ⟨Z, hZ⟩ : ∃ Z, Hid (w.heap.size = Z) := ⟨_, hide rfl⟩
 have hZX : Z ≠ X := by rw [← hZ.out]; omega
 have hZ3 : Z < w3.heap.size := by rw [← hZ.out]; omega
 rw [hZ.out] at rd ⊢
 have hrow : RowAt w3 (some ⟨Z, 48, none⟩) m.d := ⟨by rw [hd32]; decide, hdb, .inr ⟨_, _, rfl, hZ3, rd⟩⟩
 have cr := raw_on X v3 (zs ++ putL 5 ++ putL m.e) (some ⟨Z, 48, none⟩) 32 m.d w3 hW3 hrow (.inr (fun x hx => by cases hx; exact hZX)) (by simp only [List.length_append]; omega)
 rw [show m.d.length = 32 from hd32] at cr
 have HT := hide T
 clear cN MA hR3 hR2 hR1 hd32 T T12
 go_wp2_with fail
 refine cr.mono ?_
 intro _ w4 hfin
 have HF := hide (HF0 HT.out.1 HT.out.2 hfin)
 obtain ⟨v9, rfl, g1, g2, g3⟩ := hfin
 go_wp2_with fail
 go_end0
 exact HF.out
set_option maxRecDepth 100000 in
set_option maxHeartbeats 2000000 in
theorem wm6_on (X : Nat) (v : Value) (zs : List Int) (m : Mg) (w0 w : World) (om : m.ok) (am : m.At w0) (hf : m.Fine) (hk : m.k = 6) (hb : Below w0.heap.size w0 w) (hX : w0.heap.size ≤ X) (h : WrAt w X v zs false) (hz : zs.length ≤ 100000) : Calls Tryz.prog 85 #[.pointer (some ⟨X, 0, none⟩), .agg m.ms.cells.toArray] w fun e w' => WrOn X v zs m.bytes w e w' := by
 have hall := hf.all
 have hbd : m.bytes = putL 6 ++ m.body := by unfold Mg.bytes; rw [hk]
 rw [hbd, List.length_append] at hall
 rw [hbd]
 clear hbd
 have hat : ∀ {w' : World} {b : Nat}, w'.rangeAt b 0 m.ms.cells → m.ms.at w' b := fun hr => om.ms.at hr
 have hkk : m.ms.k = 6 := hk
 have hbody : m.body = [m.e, m.s].flatMap putL := by unfold Mg.body; rw [hk]; rfl
 rw [hbody] at hall
 obtain ⟨q, hq⟩ : ∃ q, Hid (m.ms.cells = q) := ⟨_, hide rfl⟩
 rw [hq.out]
 simp only [hq.out] at hat
 clear hq
 obtain ⟨hB1, hR1, hs1⟩ := boxed_new w q 63
 go_enter Tryz.func85, Tryz.ntmps85
 go_upto_region 1 with fail
 obtain ⟨w1, hw1⟩ : ∃ W, w.alloc (.cells q.toArray 63) = W := ⟨_, rfl⟩
 rw [hw1] at hB1 hR1 hs1 ⊢
 have h1 := h.below hB1
 have hXl := h.lt
 clear hw1
 have MA := hat hR1
 have ck := MA.k
 rw [hkk] at ck
 try simp only [Act.put]
 refine pl_begin ?_
 refine pl_t 4 (?_) (by rfl) ?_ rfl ?_
 rotate_left
 ·go_simp
  try with_reducible rfl
 simp only [nz]
 refine pl_t 5 (?_) (by rfl) ?_ rfl ?_
 rotate_left
 ·go_simp
  try with_reducible rfl
 simp only [nz]
 refine pl_t 6 (.int .i64 6) (by rfl) (pl_one rfl rfl ck Tryz.underlying3 rfl) rfl ?_
 simp only [nz]
 refine pl_run (d := some 7) (v := .slice (some ⟨w1.heap.size, 0, none⟩) 1 1) (w' := w1.alloc (.cells #[.int .i64 6] 3)) (by rfl) (ex_bsi rfl rfl (run_bsi 6 _)) rfl ?_
 simp only [nz]
 refine pl_call (d := some 8) (by rfl) (by go_simp; first | done | exact ⟨rfl, rfl⟩ | with_reducible rfl) rfl ?_
 refine (nums_on X v zs [6] _ 1 w1 h1 rfl rfl (by omega) (one_le (by decide)) (by simp; omega)).mono ?_
 rintro _ w2 ⟨v2, rfl, hW2, hO2, hr2⟩
 refine ⟨_, rfl, ?_⟩
 simp only [nz]
 refine pl_nil ?_
 have hR2 := wr_kept h hs1 hO2 hR1
 have T := wr_trans (Off.of_below hB1) (rowon_refl w v) hO2 hr2
 have hb2 := hb.trans (wr_low h hX T.1)
 have hW2 : WrAt w2 X v2 (zs ++ putL 6) false := by simpa using hW2
 have MA := hat hR2
 have ck := MA.k
 rw [hkk] at ck
 have HF0 : ∀ {v' : Value} {e' : Ending} {w' wz : World}, Off (WrF X v) w wz → RowOn w v v' → WrOn X v' (zs ++ putL 6) ([m.e, m.s].flatMap putL) wz e' w' → WrOn X v zs (putL 6 ++ m.body) w e' w' := fun o r q => by rw [hbody]; exact WrOn.next o r q
 have cN := nums_on X v2 (zs ++ putL 6) [m.e, m.s] #[.int .i64 m.e, .int .i64 m.s] 2 w2 hW2 rfl rfl (by omega) (two_le hf.e hf.s) (by rw [List.length_append]; omega)
 have de := MA.e
 have ds := MA.s
 go_upto_region 17 with fail
 try simp only [Act.put]
 refine pl_begin ?_
 refine pl_t 66 (?_) (by rfl) ?_ rfl ?_
 rotate_left
 ·go_simp
  try with_reducible rfl
 simp only [nz]
 refine pl_t 67 (?_) (by rfl) ?_ rfl ?_
 rotate_left
 ·go_simp
  try with_reducible rfl
 simp only [nz]
 refine pl_t 68 (.int .i64 m.e) (by rfl) (pl_one rfl rfl de Tryz.underlying3 rfl) rfl ?_
 simp only [nz]
 refine pl_t 69 (?_) (by rfl) ?_ rfl ?_
 rotate_left
 ·go_simp
  try with_reducible rfl
 simp only [nz]
 refine pl_t 70 (.int .i64 m.s) (by rfl) (pl_one rfl rfl ds Tryz.underlying3 rfl) rfl ?_
 simp only [nz]
 refine pl_run (d := some 71) (v := .slice (some ⟨w2.heap.size, 0, none⟩) 2 2) (w' := w2.alloc (.cells #[.int .i64 m.e, .int .i64 m.s] 3)) (by rfl) (ex_bsi2 rfl rfl rfl (run_bsi2 m.e m.s _)) rfl ?_
 simp only [nz]
 refine pl_call (d := some 72) (by rfl) (by go_simp; first | done | exact ⟨rfl, rfl⟩ | with_reducible rfl) rfl ?_
 refine (cN).mono ?_
 rintro _ w4 hfin
 have HF := hide (HF0 T.1 T.2 hfin)
 obtain ⟨v9, rfl, g1, g2, g3⟩ := hfin
 refine ⟨_, rfl, ?_⟩
 simp only [nz]
 refine pl_nil ?_
 go_wp2_with fail
 go_end0
 exact HF.out
set_option maxRecDepth 100000 in
set_option maxHeartbeats 2000000 in
theorem wm7_on (X : Nat) (v : Value) (zs : List Int) (m : Mg) (w0 w : World) (om : m.ok) (am : m.At w0) (hf : m.Fine) (hk : m.k = 7) (hb : Below w0.heap.size w0 w) (hX : w0.heap.size ≤ X) (h : WrAt w X v zs false) (hz : zs.length ≤ 100000) : Calls Tryz.prog 85 #[.pointer (some ⟨X, 0, none⟩), .agg m.ms.cells.toArray] w fun e w' => WrOn X v zs m.bytes w e w' := by
 have hall := hf.all
 have hbd : m.bytes = putL 7 ++ m.body := by unfold Mg.bytes; rw [hk]
 rw [hbd, List.length_append] at hall
 rw [hbd]
 clear hbd
 have hat : ∀ {w' : World} {b : Nat}, w'.rangeAt b 0 m.ms.cells → m.ms.at w' b := fun hr => om.ms.at hr
 have hkk : m.ms.k = 7 := hk
 have hbody : m.body = batL m.q (m.rs.xs.map BRq.of) ++ ctL m.ct m.cs.xs := by unfold Mg.body; rw [hk]; rfl
 rw [hbody, List.length_append] at hall
 obtain ⟨q, hq⟩ : ∃ q, Hid (m.ms.cells = q) := ⟨_, hide rfl⟩
 rw [hq.out]
 simp only [hq.out] at hat
 clear hq
 obtain ⟨hB1, hR1, hs1⟩ := boxed_new w q 63
 go_enter Tryz.func85, Tryz.ntmps85
 go_upto_region 1 with fail
 obtain ⟨w1, hw1⟩ : ∃ W, w.alloc (.cells q.toArray 63) = W := ⟨_, rfl⟩
 rw [hw1] at hB1 hR1 hs1 ⊢
 have h1 := h.below hB1
 have hXl := h.lt
 clear hw1
 have MA := hat hR1
 have ck := MA.k
 rw [hkk] at ck
 try simp only [Act.put]
 refine pl_begin ?_
 refine pl_t 4 (?_) (by rfl) ?_ rfl ?_
 rotate_left
 ·go_simp
  try with_reducible rfl
 simp only [nz]
 refine pl_t 5 (?_) (by rfl) ?_ rfl ?_
 rotate_left
 ·go_simp
  try with_reducible rfl
 simp only [nz]
 refine pl_t 6 (.int .i64 7) (by rfl) (pl_one rfl rfl ck Tryz.underlying3 rfl) rfl ?_
 simp only [nz]
 refine pl_run (d := some 7) (v := .slice (some ⟨w1.heap.size, 0, none⟩) 1 1) (w' := w1.alloc (.cells #[.int .i64 7] 3)) (by rfl) (ex_bsi rfl rfl (run_bsi 7 _)) rfl ?_
 simp only [nz]
 refine pl_call (d := some 8) (by rfl) (by go_simp; first | done | exact ⟨rfl, rfl⟩ | with_reducible rfl) rfl ?_
 refine (nums_on X v zs [7] _ 1 w1 h1 rfl rfl (by omega) (one_le (by decide)) (by simp; omega)).mono ?_
 rintro _ w2 ⟨v2, rfl, hW2, hO2, hr2⟩
 refine ⟨_, rfl, ?_⟩
 simp only [nz]
 refine pl_nil ?_
 have hR2 := wr_kept h hs1 hO2 hR1
 have T := wr_trans (Off.of_below hB1) (rowon_refl w v) hO2 hr2
 have hb2 := hb.trans (wr_low h hX T.1)
 have hW2 : WrAt w2 X v2 (zs ++ putL 7) false := by simpa using hW2
 have MA := hat hR2
 have ck := MA.k
 rw [hkk] at ck
 have HF0 : ∀ {v' : Value} {e' : Ending} {w' wz : World}, Off (WrF X v) w wz → RowOn w v v' → WrOn X v' (zs ++ putL 7 ++ batL m.q (m.rs.xs.map BRq.of)) (ctL m.ct m.cs.xs) wz e' w' → WrOn X v zs (putL 7 ++ m.body) w e' w' := fun o r q => by
  rw [hbody, ← List.append_assoc]
  rw [List.append_assoc zs] at q
  exact WrOn.next o r q
 have cB := wbatch_on X v2 (zs ++ putL 7) m.q m.rs w2 (am.rs.below hb2) hW2 hf.rn hf.rs (by simp only [List.length_append]; omega)
 have cC := fun v' w' (hb' : Below w0.heap.size w0 w') (h' : WrAt w' X v' (zs ++ putL 7 ++ batL m.q (m.rs.xs.map BRq.of)) false) => wcert_on X v' (zs ++ putL 7 ++ batL m.q (m.rs.xs.map BRq.of)) m.ct m.cs w0 w' om.ct am.cs hb' hX hf.cn h' (by simp only [List.length_append]; omega)
 have hic : (Tryz.prog.info? 31).map (·.size) = some (certL m.ct m.cs).length := by rw [show (certL m.ct m.cs).length = 37 by simp [certL, om.ct.len]]; exact iszCe
 have rb : w2.rangeAt w.heap.size 5 [.bool m.q, m.rs.val] := fun j u hj => by
  rcases j with _ | _ | j
  ·cases hj; exact MA.q
  ·cases hj; exact MA.rs
  ·cases hj
 go_upto_region 19 with fail
 try simp only [Act.put]
 refine pl_begin ?_
 refine pl_t 75 (?_) (by rfl) ?_ rfl ?_
 rotate_left
 ·go_simp
  try with_reducible rfl
 simp only [nz]
 refine pl_t 76 (?_) (by rfl) ?_ rfl ?_
 rotate_left
 ·go_simp
  try with_reducible rfl
 simp only [nz]
 refine pl_t 77 (.agg [.bool m.q, m.rs.val].toArray) (by rfl) (ex_mid rfl rfl rb Tryz.underlying24 rfl iszBa) rfl ?_
 simp only [nz]
 refine pl_call (d := some 78) (by rfl) (by go_simp; first | done | exact ⟨rfl, rfl⟩ | with_reducible rfl) rfl ?_
 refine (cB).mono ?_
 rintro _ w3 ⟨v3, rfl, hW3, hO3, hr3⟩
 refine ⟨_, rfl, ?_⟩
 simp only [nz]
 refine pl_nil ?_
 have T12 := wr_trans hO2 hr2 hO3 hr3
 have hR3 := wr_kept h hs1 T12.1 hR1
 have T := wr_trans T.1 T.2 hO3 hr3
 have hb3 := hb.trans (wr_low h hX T.1)
 have MA := hat hR3
 have cC3 := cC v3 w3 hb3 hW3
 have rc := MA.ct
 have rc : w3.rangeAt w.heap.size 80 (certL m.ct m.cs) := rc
 clear cC cB
 go_upto_region 20 with fail
 try simp only [Act.put]
 refine pl_begin ?_
 refine pl_t 79 (?_) (by rfl) ?_ rfl ?_
 rotate_left
 ·go_simp
  try with_reducible rfl
 simp only [nz]
 refine pl_t 80 (?_) (by rfl) ?_ rfl ?_
 rotate_left
 ·go_simp
  try with_reducible rfl
 simp only [nz]
 refine pl_t 81 (.agg (certL m.ct m.cs).toArray) (by rfl) (ex_mid rfl rfl rc Tryz.underlying31 rfl hic) rfl ?_
 simp only [nz]
 refine pl_call (d := some 82) (by rfl) (by go_simp; first | done | exact ⟨rfl, rfl⟩ | with_reducible rfl) rfl ?_
 refine (cC3).mono ?_
 rintro _ w4 hfin
 have HF := hide (HF0 T.1 T.2 hfin)
 obtain ⟨v9, rfl, g1, g2, g3⟩ := hfin
 refine ⟨_, rfl, ?_⟩
 simp only [nz]
 refine pl_nil ?_
 go_wp2_with fail
 go_end0
 exact HF.out
set_option maxRecDepth 100000 in
set_option maxHeartbeats 2000000 in
theorem wm8_on (X : Nat) (v : Value) (zs : List Int) (m : Mg) (w0 w : World) (om : m.ok) (am : m.At w0) (hf : m.Fine) (hk : m.k = 8) (hb : Below w0.heap.size w0 w) (hX : w0.heap.size ≤ X) (h : WrAt w X v zs false) (hz : zs.length ≤ 100000) : Calls Tryz.prog 85 #[.pointer (some ⟨X, 0, none⟩), .agg m.ms.cells.toArray] w fun e w' => WrOn X v zs m.bytes w e w' := by
 have hall := hf.all
 have hbd : m.bytes = putL 8 ++ m.body := by unfold Mg.bytes; rw [hk]
 rw [hbd, List.length_append] at hall
 rw [hbd]
 clear hbd
 have hat : ∀ {w' : World} {b : Nat}, w'.rangeAt b 0 m.ms.cells → m.ms.at w' b := fun hr => om.ms.at hr
 have hkk : m.ms.k = 8 := hk
 have hbody : m.body = textL m.st ++ sgsL m.sg.xs := by unfold Mg.body; rw [hk]; rfl
 rw [hbody, List.length_append] at hall
 obtain ⟨q, hq⟩ : ∃ q, Hid (m.ms.cells = q) := ⟨_, hide rfl⟩
 rw [hq.out]
 simp only [hq.out] at hat
 clear hq
 obtain ⟨hB1, hR1, hs1⟩ := boxed_new w q 63
 go_enter Tryz.func85, Tryz.ntmps85
 go_upto_region 1 with fail
 obtain ⟨w1, hw1⟩ : ∃ W, w.alloc (.cells q.toArray 63) = W := ⟨_, rfl⟩
 rw [hw1] at hB1 hR1 hs1 ⊢
 have h1 := h.below hB1
 have hXl := h.lt
 clear hw1
 have MA := hat hR1
 have ck := MA.k
 rw [hkk] at ck
 try simp only [Act.put]
 refine pl_begin ?_
 refine pl_t 4 (?_) (by rfl) ?_ rfl ?_
 rotate_left
 ·go_simp
  try with_reducible rfl
 simp only [nz]
 refine pl_t 5 (?_) (by rfl) ?_ rfl ?_
 rotate_left
 ·go_simp
  try with_reducible rfl
 simp only [nz]
 refine pl_t 6 (.int .i64 8) (by rfl) (pl_one rfl rfl ck Tryz.underlying3 rfl) rfl ?_
 simp only [nz]
 refine pl_run (d := some 7) (v := .slice (some ⟨w1.heap.size, 0, none⟩) 1 1) (w' := w1.alloc (.cells #[.int .i64 8] 3)) (by rfl) (ex_bsi rfl rfl (run_bsi 8 _)) rfl ?_
 simp only [nz]
 refine pl_call (d := some 8) (by rfl) (by go_simp; first | done | exact ⟨rfl, rfl⟩ | with_reducible rfl) rfl ?_
 refine (nums_on X v zs [8] _ 1 w1 h1 rfl rfl (by omega) (one_le (by decide)) (by simp; omega)).mono ?_
 rintro _ w2 ⟨v2, rfl, hW2, hO2, hr2⟩
 refine ⟨_, rfl, ?_⟩
 simp only [nz]
 refine pl_nil ?_
 have hR2 := wr_kept h hs1 hO2 hR1
 have T := wr_trans (Off.of_below hB1) (rowon_refl w v) hO2 hr2
 have hb2 := hb.trans (wr_low h hX T.1)
 have hW2 : WrAt w2 X v2 (zs ++ putL 8) false := by simpa using hW2
 have MA := hat hR2
 have ck := MA.k
 rw [hkk] at ck
 have HF0 : ∀ {v' : Value} {e' : Ending} {w' wz : World}, Off (WrF X v) w wz → RowOn w v v' → WrOn X v' (zs ++ putL 8 ++ textL m.st) (sgsL m.sg.xs) wz e' w' → WrOn X v zs (putL 8 ++ m.body) w e' w' := fun o r q => by
  rw [hbody, ← List.append_assoc]
  rw [List.append_assoc zs] at q
  exact WrOn.next o r q
 have cT := wtext_on X v2 (zs ++ putL 8) m.st w2 hW2 hf.st (by simp only [List.length_append]; omega)
 have cG := fun v' w' (hb' : Below w0.heap.size w0 w') (h' : WrAt w' X v' (zs ++ putL 8 ++ textL m.st) false) => wlistS_on X v' (zs ++ putL 8 ++ textL m.st) m.sg w0 w' am.sg hb' hX h' hf.gn (fun g hg v3 zs3 w3 _ h3 hl3 => wsign_on X v3 zs3 g (am.sg.2.1 g hg) w3 h3 hl3) (by unfold sgsL at hall; simp only [List.length_append] at hall ⊢; omega)
 have dst := MA.st
 have dst : w2.cell? ⟨w.heap.size, 117, none⟩ = some (.string m.st) := dst
 go_upto_region 22 with fail
 try simp only [Act.put]
 refine pl_begin ?_
 refine pl_t 85 (?_) (by rfl) ?_ rfl ?_
 rotate_left
 ·go_simp
  try with_reducible rfl
 simp only [nz]
 refine pl_t 86 (?_) (by rfl) ?_ rfl ?_
 rotate_left
 ·go_simp
  try with_reducible rfl
 simp only [nz]
 refine pl_t 87 (.string m.st) (by rfl) (pl_one rfl rfl dst Tryz.underlying9 rfl) rfl ?_
 simp only [nz]
 refine pl_call (d := some 88) (by rfl) (by go_simp; first | done | exact ⟨rfl, rfl⟩ | with_reducible rfl) rfl ?_
 refine (cT).mono ?_
 rintro _ w3 ⟨v3, rfl, hW3, hO3, hr3⟩
 refine ⟨_, rfl, ?_⟩
 simp only [nz]
 refine pl_nil ?_
 have T12 := wr_trans hO2 hr2 hO3 hr3
 have hR3 := wr_kept h hs1 T12.1 hR1
 have T := wr_trans T.1 T.2 hO3 hr3
 have hb3 := hb.trans (wr_low h hX T.1)
 have MA := hat hR3
 have cG3 := cG v3 w3 hb3 hW3
 have dg := MA.sg
 have dg : w3.cell? ⟨w.heap.size, 118, none⟩ = some m.sg.val := dg
 unfold sgsL at HF0
 clear cG cT
 go_upto_region 23 with fail
 try simp only [Act.put]
 refine pl_begin ?_
 refine pl_t 89 (?_) (by rfl) ?_ rfl ?_
 rotate_left
 ·go_simp
  try with_reducible rfl
 simp only [nz]
 refine pl_t 90 (?_) (by rfl) ?_ rfl ?_
 rotate_left
 ·go_simp
  try with_reducible rfl
 simp only [nz]
 refine pl_t 91 (m.sg.val) (by rfl) (pl_one rfl rfl dg Tryz.underlying29 rfl) rfl ?_
 simp only [nz]
 refine pl_t 92 (?_) (by rfl) ?_ rfl ?_
 rotate_left
 ·go_simp
  try with_reducible rfl
 simp only [nz]
 refine pl_t 93 (?_) (by rfl) ?_ rfl ?_
 rotate_left
 ·go_simp
  try with_reducible rfl
 simp only [nz]
 refine pl_call (d := some 94) (by rfl) (by go_simp; first | done | exact ⟨rfl, rfl⟩ | with_reducible rfl) rfl ?_
 refine (cG3).mono ?_
 rintro _ w4 hfin
 have HF := hide (HF0 T.1 T.2 hfin)
 obtain ⟨v9, rfl, g1, g2, g3⟩ := hfin
 refine ⟨_, rfl, ?_⟩
 simp only [nz]
 refine pl_nil ?_
 go_wp2_with fail
 go_end0
 exact HF.out
theorem wmsg_on (X : Nat) (v : Value) (zs : List Int) (m : Mg) (w0 w : World) (om : m.ok) (am : m.At w0) (hf : m.Fine) (h1 : 1 ≤ m.k) (h8 : m.k ≤ 8) (hb : Below w0.heap.size w0 w) (hX : w0.heap.size ≤ X) (h : WrAt w X v zs false) (hz : zs.length ≤ 100000) : Calls Tryz.prog 85 #[.pointer (some ⟨X, 0, none⟩), .agg m.ms.cells.toArray] w fun e w' => WrOn X v zs m.bytes w e w' := by
 have hk : m.k = 1 ∨ m.k = 2 ∨ m.k = 3 ∨ m.k = 4 ∨ m.k = 5 ∨ m.k = 6 ∨ m.k = 7 ∨ m.k = 8 := by omega
 rcases hk with hk | hk | hk | hk | hk | hk | hk | hk
 ·exact wm1_on X v zs m w0 w om am hf hk hb hX h hz
 ·exact wm2_on X v zs m w0 w om am hf hk hb hX h hz
 ·exact wm3_on X v zs m w0 w om am hf hk hb hX h hz
 ·exact wm4_on X v zs m w0 w om am hf hk hb hX h hz
 ·exact wm5_on X v zs m w0 w om am hf hk hb hX h hz
 ·exact wm6_on X v zs m w0 w om am hf hk hb hX h hz
 ·exact wm7_on X v zs m w0 w om am hf hk hb hX h hz
 ·exact wm8_on X v zs m w0 w om am hf hk hb hX h hz
def FOn (zs bs : List Int) (w : World) (e : Ending) (w' : World) : Prop := ∃ v, e = .returned v ∧ Mine w' w.heap.size v (zs ++ bs) ∧ Below w.heap.size w w'
theorem FOn.row {zs bs L : List Int} {w w' : World} {e : Ending} (h : FOn zs bs w e w') (hL : zs ++ bs = L) (hm : L.length ≤ 4000000) : ∃ a cap, e = .returned (.slice a L.length cap) ∧ RowAt w' a L ∧ Mine w' w.heap.size (.slice a L.length cap) L ∧ Below w.heap.size w w' := by
 subst hL
 obtain ⟨v, rfl, h1, h2⟩ := h
 obtain ⟨a, cap, rfl, _, _, hr⟩ := h1.rowAt (by unfold maxLen; omega)
 exact ⟨a, cap, rfl, hr, h1, h2⟩
theorem ms_bat {m : Mg} {w : World} {b : Nat} (h : m.ms.at w b) : w.rangeAt b 5 [.bool m.q, m.rs.val] := fun j u hj => by
 rcases j with _ | _ | j
 ·cases hj; exact h.q
 ·cases hj; exact h.rs
 ·cases hj
set_option maxRecDepth 100000 in
set_option maxHeartbeats 4000000 in
theorem enc1 (q : List Value) (b : Bool) (zs : List Int) (w : World) (hq : q.length = 119)
  (hg : ∀ w0, Below w.heap.size w w0 → Calls Tryz.prog 26 #[.agg q.toArray] w0 fun e w' => e = .returned (.bool b) ∧ Below w0.heap.size w0 w') (hw : b = true → ∀ (X : Nat) (w0 : World), Below w.heap.size w w0 → w.heap.size ≤ X → WrAt w0 X (.slice none 0 0) [] false → Calls Tryz.prog 85 #[.pointer (some ⟨X, 0, none⟩), .agg q.toArray] w0 fun e w' => WrOn X (.slice none 0 0) [] zs w0 e w') :
  Calls Tryz.prog 49 #[.agg q.toArray] w fun e w' => e = .returned (encV b zs) ∧ Below w.heap.size w w' := by
 have hB : Below w.heap.size w (w.alloc (.cells q.toArray 63)) := (Below.refl _ _).alloc (Nat.le_refl _) _
 have hs : w.heap.size < (w.alloc (.cells q.toArray 63)).heap.size := by simp
 have hA : (w.alloc (.cells q.toArray 63)).rangeAt w.heap.size 0 q := by simpa using range_new w q.toArray 63
 have iq : (Tryz.prog.info? 63).map (·.size) = some q.length := by rw [hq]; exact iszM
 clear hq
 cases b
 ·show Calls Tryz.prog 49 #[.agg q.toArray] w fun e w' => e = .returned (.tuple #[.string ⟨#[]⟩, .int .i64 130]) ∧ Below w.heap.size w w'
  clear hw
  go_enter Tryz.func49, Tryz.ntmps49
  go_upto_region 1 with fail
  go_name_world w1 hw1
  rw [show w.alloc (.cells q.toArray 63) = w1 from hw1] at hB hs hA
  clear hw1
  go_wp2_with (refine wpList_load_mid rfl 63 _ rfl _ _ rfl q _ hA Tryz.underlying63 rfl iq ?_)
  refine (hg _ hB).mono ?_
  rintro e2 w2 ⟨rfl, hb2⟩
  have hB2 := hB.trans (hb2.mono (by omega))
  clear hA hg hB hb2
  go_wp2
  go_ret2
  exact ⟨rfl, hB2⟩
 ·show Calls Tryz.prog 49 #[.agg q.toArray] w fun e w' => e = .returned (.tuple #[.string (strOf zs), .int .i64 0]) ∧ Below w.heap.size w w'
  replace hw := hw rfl
  obtain ⟨sz, hsz⟩ : ∃ sz, Hid (strOf zs = sz) := ⟨_, hide rfl⟩
  rw [hsz.out]
  go_enter Tryz.func49, Tryz.ntmps49
  go_upto_region 1 with fail
  go_name_world w1 hw1
  rw [show w.alloc (.cells q.toArray 63) = w1 from hw1] at hB hs hA
  clear hw1
  go_wp2_with (refine wpList_load_mid rfl 63 _ rfl _ _ rfl q _ hA Tryz.underlying63 rfl iq ?_)
  refine (hg _ hB).mono ?_
  rintro e2 w2 ⟨rfl, hb2⟩
  have hB2 := hB.trans (hb2.mono (by omega))
  have hA2 := range_below hA hb2 hs
  have hs2 := Nat.lt_of_lt_of_le hs hb2.size
  clear hA hg hB hb2 hs
  go_upto_region 4 with fail
  have hN := wr_new w2
  have hB3 : Below w2.heap.size w2 (w2.alloc (.cells #[.slice none 0 0, .bool false] 127)) := (Below.refl _ _).alloc (Nat.le_refl _) _
  go_name_world w3 hw3
  rw [show w2.alloc (.cells #[.slice none 0 0, .bool false] 127) = w3 from hw3] at hN hB3
  clear hw3
  have hA3 := range_below hA2 hB3 hs2
  have hB4 := hB2.trans (hB3.mono (by omega))
  have cw := hw w2.heap.size w3 hB4 hB2.size hN
  have hs3 := hN.lt
  clear hA2 hB2 hB3 hw hN
  go_wp2_with (refine wpList_load_mid rfl 63 _ rfl _ _ rfl q _ hA3 Tryz.underlying63 rfl iq ?_)
  refine cw.mono ?_
  rintro e5 w5 ⟨v5, rfl, hW5, hO5, _⟩
  rw [List.nil_append] at hW5
  have c0 := hW5.c0
  have c1 := hW5.c1
  have hcs := mine_str hW5.me
  have hB5 := hB4.trans (hO5.below (n := w.heap.size) (by omega) (fun b hb hf => by
   rcases hf with hf | hf
   ·omega
   ·cases hf))
  obtain ⟨a5, cap5, rfl⟩ : ∃ a cap, v5 = .slice a zs.length cap := by
   rcases own_range hW5.me.1 with ⟨rfl, h0, _⟩ | ⟨g, cap, rfl, _⟩
   ·exact ⟨none, 0, by rw [h0]⟩
   ·exact ⟨_, cap, rfl⟩
  rw [hsz.out] at hcs
  clear hsz cw hW5 hO5 hA3 hB4
  go_wp2
  go_ret2
  exact ⟨rfl, hB5⟩
theorem Mg.good_k {m : Mg} (h : m.good = true) : 1 ≤ m.k ∧ m.k ≤ 8 := by
 unfold Mg.good at h
 rw [Bool.and_eq_true] at h
 exact of_decide_eq_true h.1
theorem enc_any (m : Mg) (w : World) (om : m.ok) (am : m.At w) (hf : m.good = true → m.Fine) : Calls Tryz.prog 49 #[.agg m.ms.cells.toArray] w fun e w' => e = .returned (encV m.good m.bytes) ∧ Below w.heap.size w w' :=
 enc1 m.ms.cells m.good m.bytes w om.ms.len (fun w0 h0 => good_any m w0 om (am.below h0)) (fun hg X w0 h0 hX hW => wmsg_on X _ [] m w w0 om am (hf hg) (Mg.good_k hg).1 (Mg.good_k hg).2 h0 hX hW (by simp))
structure Bat where
  q : Bool
  a : Option Addr
  cap : Nat
  rs : List BRq
def Bat.cells (x : Bat) : List Value := [.bool x.q, .slice x.a x.rs.length x.cap]
def Bat.at (x : Bat) (w : World) : Prop := ReqsAt w x.a x.rs ∧ True ∧ True
theorem Bat.at.below {x : Bat} {w w' : World} (h : x.at w) (hb : Below w.heap.size w w') : x.at w' := ⟨h.1.below hb, h.2.1, h.2.2⟩
def BatsAt (w : World) (b : Nat) (xs : List Bat) : Prop := xs.length ≤ 2 ∧ (∀ x ∈ xs, x.at w) ∧ b < w.heap.size ∧ w.rangeAt b 0 (xs.flatMap Bat.cells)
theorem BatsAt.below {w w' : World} {b : Nat} {xs : List Bat} (h : BatsAt w b xs) (hb : Below w.heap.size w w') : BatsAt w' b xs :=
 ⟨h.1, fun x hx => (h.2.1 x hx).below hb, Nat.lt_of_lt_of_le h.2.2.1 hb.size, range_below h.2.2.2 hb h.2.2.1⟩
theorem BatsAt.cell {w : World} {b : Nat} {xs : List Bat} (h : BatsAt w b xs) (k : Nat) (hk : k < xs.length) : w.cell? ⟨b, k * 2 + 1, none⟩ = some (.slice xs[k].a xs[k].rs.length xs[k].cap) := by
 have h4 := h.2.2.2
 have h1 := h.1
 match xs, k, hk, h4 with
 | [x], 0, _, h4 => exact h4 1 _ rfl
 | [x, y], 0, _, h4 => exact h4 1 _ rfl
 | [x, y], 1, _, h4 => exact h4 3 _ rfl
 | x :: y :: z :: l, _, _, _ => simp at h1
end Go.Proofs.YtinndbipomlokaaGreat
