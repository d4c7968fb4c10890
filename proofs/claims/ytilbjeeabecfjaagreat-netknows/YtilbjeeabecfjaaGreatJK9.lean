/- a net: Send; a net: the example; acts and claims among the arguments; a net that no call made; NetNobody -/
import Derived.Test.YtilbjeeabecfjaaGreatJK0
import Derived.Test.YtilbjeeabecfjaaGreatJK8
import Derived.Deep.DeepCutAuto
import Derived.Test.YtilbjeeabecfjaaGreatJK2
import Derived.Deep.Slices
import Derived.Test.YtilbjeeabecfjaaGreatRows
import Derived.ProofKit
import Derived.OpenShut
import Derived.ShutString
import Derived.ChangeOld
import Derived.Below
import Derived.Lib.LaidTab
import Derived.Test.YtilbjeeabecfjaaGreatJK7
namespace Go.Proofs.YtilbjeeabecfjaaGreat
open Go.RowKit
open Sha Tal
set_option linter.unusedVariables false
set_option linter.unusedSimpArgs false
theorem isz_pks : (Tryz.prog.info? 67).map (·.size) = some 1 := by kernel_rfl
def infoPk0 : List Value := [Value.int .i64 0] ++ evZ0
 where evZ0 : List Value := [Value.int .i64 0, .string ⟨#[]⟩] ++ v8 (List.replicate 16 0)
theorem infoPk : (Tryz.prog.info? 44).map (fun i => (i.zero, i.size, i.bytes)) = some (some (.agg infoPk0.toArray), 19, 48) := by kernel_rfl
theorem zeroPk (w : World) : (zeroValue 44).run Tryz.prog w = .ok (.agg infoPk0.toArray) w := by kernel_rfl
theorem zeroPkE (w : World) : (zeroValue 44).run Tryz.prog w = .ok (.agg ([Value.int .i64 0] ++ ([Value.int .i64 0, .string ⟨#[]⟩] ++ v8 (List.replicate 16 0))).toArray) w := by kernel_rfl
set_option maxRecDepth 100000 in
theorem build_pk (n : Int) (q : List Value) (hq : q.length = 18) (w : World) : (Instr.build 44 #[(0, .int .i64 n), (1, .agg q.toArray)]).run Tryz.prog w = .ok (.agg (.int .i64 n :: q).toArray) w :=
 build_fill (zs := [Value.int .i64 0] ++ ([Value.int .i64 0, .string ⟨#[]⟩] ++ v8 (List.replicate 16 0))) (pl := #[(0, 1), (1, 18)]) (zeroPkE w) (by kernel_rfl) (by kernel_rfl) _ _ (fill_two (c1 := [.int .i64 n]) (c2 := q) rfl rfl rfl rfl rfl hq rfl rfl)
theorem own_v1 {P : Nd} {v : Value} {n : Nat} (h : ∀ g, v.ownBlock = some g → P.v1.ownBlock = some g ∨ n ≤ g) : ∀ b, Nd.own ⟨P.p, v, P.v6, P.m2, P.m3, P.m7⟩ b → P.own b ∨ n ≤ b := fun b hb => by
 rcases hb with hb | hb | hb | hb | hb | hb
 ·exact .inl (.inl hb)
 ·exact .inl (.inr (.inl hb))
 ·exact .inl (.inr (.inr (.inl hb)))
 ·exact .inl (.inr (.inr (.inr (.inl hb))))
 ·exact (h b hb).imp (fun q => .inr (.inr (.inr (.inr (.inl q))))) (fun q => q)
 ·exact .inl (.inr (.inr (.inr (.inr (.inr hb)))))
theorem own_v6 {P : Nd} {v : Value} {n : Nat} (h : ∀ g, v.ownBlock = some g → P.v6.ownBlock = some g ∨ n ≤ g) : ∀ b, Nd.own ⟨P.p, P.v1, v, P.m2, P.m3, P.m7⟩ b → P.own b ∨ n ≤ b := fun b hb => by
 rcases hb with hb | hb | hb | hb | hb | hb
 ·exact .inl (.inl hb)
 ·exact .inl (.inr (.inl hb))
 ·exact .inl (.inr (.inr (.inl hb)))
 ·exact .inl (.inr (.inr (.inr (.inl hb))))
 ·exact .inl (.inr (.inr (.inr (.inr (.inl hb)))))
 ·exact (h b hb).imp (fun q => .inr (.inr (.inr (.inr (.inr q))))) (fun q => q)
theorem Off.grow {P Q : Nd} {w w1 w2 : World} (h : Off P.own w w1) (k : Off Q.own w1 w2) (hG : ∀ b, Q.own b → P.own b ∨ w.heap.size ≤ b) : Off P.own w w2 :=
 h.trans k fun b hb hq => (hG b hq).resolve_right (by omega)
theorem pk_one (p : Pk) : ∀ v ∈ p.cells, v.oneCell' = true := fun v hv => by
 rcases List.mem_cons.1 hv with rfl | hv
 ·rfl
 ·exact EvE.one p.x v hv
set_option maxRecDepth 100000 in
set_option maxHeartbeats 8000000 in
theorem nsend_dup (B K : Nat) (P : Nd) (s : Nt) (dt : Int) (x : Ev) (w : World) (h : NetAt w B K P s 0) (hn : 0 < s.nodes) (hx : x.ok) (t0 : 0 ≤ dt) (t1 : dt < s.nodes) (hP : (⟨dt, x⟩ : Pk).ok) (hi : (⟨dt, x⟩ : Pk) ∈ s.on) : Calls Tryz.prog 13 #[.pointer (some ⟨P.p, 0, none⟩), .int .i64 dt, .agg x.cells.toArray] w fun e w' => e = .returned (.int .i64 0) ∧ NetAt w' B K P s 0 ∧ Off P.own w w' := by
 obtain ⟨c, hc⟩ : ∃ c : Bool, c = true ∧ (c = true ↔ (⟨dt, x⟩ : Pk) ∈ s.on) := ⟨true, rfl, fun _ => hi, fun _ => rfl⟩
 obtain ⟨hct, hc⟩ := hc
 have hc' : c = true ↔ ∃ y ∈ s.on, klP ⟨dt, x⟩ = klP y := hc.trans ⟨fun q => ⟨_, q, rfl⟩, fun ⟨y, hy, e⟩ => by rw [klP_inj hP (h.ko y hy) e]; exact hy⟩
 have hxl : x.cells.length = 18 := EvE.len x hx
 have hpl : (⟨dt, x⟩ : Pk).cells.length = 19 := Pk.len hP
 have hp1 := pk_one ⟨dt, x⟩
 have hkp := key_pk ⟨dt, x⟩ hP
 have hbp := fun w0 => build_pk dt x.cells hxl w0
 have hbp : ∀ w0, (Instr.build 44 #[(0, .int .i64 dt), (1, .agg x.cells.toArray)]).run Tryz.prog w0 = .ok (.agg (⟨dt, x⟩ : Pk).cells.toArray) w0 := hbp
 obtain ⟨zp, hzp, hzl⟩ : ∃ z : List Value, (∀ w : World, (zeroValue 44).run Tryz.prog w = .ok (.agg z.toArray) w) ∧ z.length = 19 := ⟨infoPk0, zeroPk, rfl⟩
 obtain ⟨xq, hxq⟩ : ∃ q, Hid (x.cells = q) := ⟨_, hide rfl⟩
 obtain ⟨pq, hpq⟩ : ∃ q, Hid ((⟨dt, x⟩ : Pk).cells = q) := ⟨_, hide rfl⟩
 simp only [hxq.out, hpq.out] at hxl hpl hp1 hkp hbp ⊢
 have ix : (Tryz.prog.info? 32).map (·.size) = some xq.length := by rw [hxl]; exact isz_en
 have iq : (Tryz.prog.info? 44).map (·.size) = some pq.length := by rw [hpl]; exact isz_pk
 obtain ⟨hBk, rX, sX⟩ := boxed_new w xq 32
 have h0 := h.below hBk
 have hO : Off P.own w (w.alloc (.cells xq.toArray 32)) := Off.of_below hBk
 have nX : ∀ b, P.own b → b ≠ w.heap.size := fun b hb e => by have := h.own_lt hb; omega
 have gX : w.heap.size ≤ w.heap.size := Nat.le_refl _
 have cm := nmade_any P.p s.nodes (w.alloc (.cells xq.toArray 32)) h0.c0
 rw [decide_eq_true hn] at cm
 obtain ⟨W, hW⟩ : ∃ W, Hid (w.alloc (.cells xq.toArray 32) = W) := ⟨_, hide rfl⟩
 obtain ⟨X, hX⟩ : ∃ X, Hid (w.heap.size = X) := ⟨_, hide rfl⟩
 rw [hW.out] at rX sX h0 hO cm
 rw [hX.out] at rX sX nX
 have gX : w.heap.size ≤ X := Nat.le_of_eq hX.out
 have c0 : W.cell? ⟨P.p, 0, none⟩ = some (.int .i64 s.nodes) := h0.c0
 have k0 : ¬ dt < 0 := by omega
 have k1 : ¬ s.nodes ≤ dt := by omega
 have H0 := hide h0
 have HO := hide hO
 clear hBk h h0 hO
 go_enter Tryz.func13, Tryz.ntmps13
 go_upto_region 1 with fail
 try simp only [hW.out, hX.out]
 clear hW
 try simp only [Act.put]
 refine pl_begin ?_
 refine pl_t 11 (?_) (by rfl) ?_ rfl ?_
 rotate_left
 ·go_simp
  try with_reducible rfl
 simp only [nz]
 refine pl_call (d := some 12) (by rfl) (by go_simp; first | done | exact ⟨rfl, rfl⟩ | with_reducible rfl) rfl ?_
 refine (cm).mono ?_
 rintro _ wc ⟨rfl, hwc⟩
 refine ⟨_, rfl, ?_⟩
 simp only [nz]
 obtain rfl := hwc.symm
 refine pl_t 13 (?_) (by rfl) ?_ rfl ?_
 rotate_left
 ·go_simp
  try with_reducible rfl
 simp only [nz]
 refine pl_t 10 (?_) (by rfl) ?_ rfl ?_
 rotate_left
 ·go_simp
  try with_reducible rfl
 simp only [nz]
 refine pl_nil ?_
 clear cm
 go_upto_region 3 with fail
 try simp only [Act.put]
 refine pl_begin ?_
 refine pl_t 15 (?_) (by rfl) ?_ rfl ?_
 rotate_left
 ·go_simp
  try with_reducible rfl
 simp only [nz]
 refine pl_t 16 (.bool false) (by rfl) (by go_simp <;> (try simp [*])) rfl ?_
 simp only [nz]
 refine pl_t 17 (?_) (by rfl) ?_ rfl ?_
 rotate_left
 ·go_simp
  try with_reducible rfl
 simp only [nz]
 refine pl_t 18 (?_) (by rfl) ?_ rfl ?_
 rotate_left
 ·go_simp
  try with_reducible rfl
 simp only [nz]
 refine pl_t 19 (?_) (by rfl) ?_ rfl ?_
 rotate_left
 ·go_simp
  try with_reducible rfl
 simp only [nz]
 refine pl_t 20 (?_) (by rfl) ?_ rfl ?_
 rotate_left
 ·go_simp
  try with_reducible rfl
 simp only [nz]
 refine pl_t 21 (?_) (by rfl) ?_ rfl ?_
 rotate_left
 ·go_simp
  try with_reducible rfl
 simp only [nz]
 refine pl_t 22 (.int .i64 s.nodes) (by rfl) (pl_one rfl rfl c0 Tryz.underlying3 rfl) rfl ?_
 simp only [nz]
 refine pl_t 23 (.bool false) (by rfl) (by go_simp <;> (try simp [*])) rfl ?_
 simp only [nz]
 refine pl_t 24 (?_) (by rfl) ?_ rfl ?_
 rotate_left
 ·go_simp
  try with_reducible rfl
 simp only [nz]
 refine pl_t 14 (?_) (by rfl) ?_ rfl ?_
 rotate_left
 ·go_simp
  try with_reducible rfl
 simp only [nz]
 refine pl_nil ?_
 clear k0 k1 c0
 go_upto_region 5 with fail
 try simp only [Act.put]
 refine pl_begin ?_
 refine pl_t 25 (?_) (by rfl) ?_ rfl ?_
 rotate_left
 ·go_simp
  try with_reducible rfl
 simp only [nz]
 refine pl_t 26 (.agg xq.toArray) (by rfl) (ex_mid rfl rfl rX Tryz.underlying32 rfl ix) rfl ?_
 simp only [nz]
 refine pl_t 27 (.agg pq.toArray) (by rfl) (ex_build (parts := [(0, .tmp 25), (1, .tmp 26)]) (vs := [(0, .int .i64 dt), (1, .agg xq.toArray)]) rfl (by first | with_reducible rfl | rfl | simp [Act.eval]) (hbp _)) rfl ?_
 simp only [nz]
 refine pl_run (d := some 7) (v := .pointer (some ⟨W.heap.size, 0, none⟩)) (w' := W.alloc (.cells zp.toArray 44)) (by rfl) (ex_alloc rfl (hzp _)) rfl ?_
 simp only [nz]
 refine pl_store (w' := (W.alloc (.cells zp.toArray 44)).setCells W.heap.size 0 pq) (by rfl) (ex_put (cs := pq.toArray) rfl rfl rfl (there_newN _ _ _ (by simp [hzl, hpl])) (by simpa using iq) (all_one hp1)) rfl ?_
 refine pl_nil ?_
 obtain ⟨rY, hF, hF3, -⟩ := fresh_store W zp.toArray 44 pq (by simp [hzl, hpl])
 have HD := H0.out.below hF
 have nY : ∀ b, P.own b → b ≠ W.heap.size := fun b hb e => by have := H0.out.own_lt hb; omega
 have gY : w.heap.size ≤ W.heap.size := HO.out.size
 have nXY : X ≠ W.heap.size := by omega
 have HO := HO.out.trans (Off.of_below (F := P.own) hF) (fun _ _ q => q)
 have rX := range_below rX hF sX
 have sX := Nat.lt_of_lt_of_le sX hF.size
 have sY : W.heap.size < ((W.alloc (.cells zp.toArray 44)).setCells W.heap.size 0 pq).heap.size := by omega
 obtain ⟨Y, hY⟩ : ∃ Y, W.heap.size = Y := ⟨_, rfl⟩
 rw [hY] at rY HD nY gY nXY HO rX sX sY
 simp only [hY]
 obtain ⟨V, hV⟩ : ∃ V, (W.alloc (.cells zp.toArray 44)).setCells Y 0 pq = V := ⟨_, rfl⟩
 rw [hV] at rY HD HO rX sX sY ⊢
 clear hV hY hF hF3 H0 hzp hbp
 have HD : NetAt V.drew B K P s 0 := HD.on (Nat.le_refl _) (fun _ _ => rfl)
 have HO := HO.drew
 have rX : V.drew.rangeAt X 0 xq := (World.rangeAt_drew _ _ _ _).2 rX
 have rY : V.drew.rangeAt Y 0 pq := (World.rangeAt_drew _ _ _ _).2 rY
 have sX : X < V.drew.heap.size := sX
 have sY : Y < V.drew.heap.size := sY
 have hlk : ∀ w', Below V.drew.heap.size V.drew w' → (Instr.lookup 68 (.map (some P.m2)) (.agg pq.toArray) true).run Tryz.prog w' = .ok (.tuple #[unitV, .bool c]) w' := fun w' hb => by
  have := (HD.g2.at (hb.block _ HD.g2.lt)).look lawPk Tryz.underlying68 (zeroUnit w') hkp c hc'
  simpa using this
 have c2 : ∀ w', Below V.drew.heap.size V.drew w' → w'.cell? ⟨P.p, 2, none⟩ = some (.map (some P.m2)) := fun w' hb => (HD.on hb.size (fun b hq => hb.block b (HD.own_lt hq))).c 2 _ rfl
 clear hc hc'
 subst hct
 go_upto_region 6 with fail
 refine hs_begin (S := (Below V.drew.heap.size V.drew)) 12 rfl (by kernel_rfl) ?_
 obtain ⟨w8, hw8⟩ : ∃ w8, V.drew = w8 := ⟨_, rfl⟩
 rw [hw8] at HD rX rY sX sY HO ⊢
 simp only [hw8] at hlk c2
 have hS : (Below w8.heap.size w8) w8 := Below.refl _ _
 clear hw8
 refine hs_t 0 29 (?_) rfl (by kernel_rfl) (by kernel_rfl) (by kernel_rfl) (by rfl) ?_ hS rfl ?_
 rotate_left
 ·intro w' hw
  go_simp
  try with_reducible rfl
 simp only [nz]
 refine hs_t 1 30 (?_) rfl (by kernel_rfl) (by kernel_rfl) (by kernel_rfl) (by rfl) ?_ hS rfl ?_
 rotate_left
 ·intro w' hw
  go_simp
  try with_reducible rfl
 simp only [nz]
 refine hs_t 2 31 (?_) rfl (by kernel_rfl) (by kernel_rfl) (by kernel_rfl) (by rfl) ?_ hS rfl ?_
 rotate_left
 ·intro w' hw
  go_simp
  try with_reducible rfl
 simp only [nz]
 refine hs_t 3 32 (.map (some P.m2)) rfl (by kernel_rfl) (by kernel_rfl) (by kernel_rfl) (by rfl) (fun w' hw => pl_one rfl rfl (c2 _ hw) Tryz.underlying68 rfl) hS rfl ?_
 simp only [nz]
 refine hs_t 4 33 (.agg pq.toArray) rfl (by kernel_rfl) (by kernel_rfl) (by kernel_rfl) (by rfl) (fun w' hw => ex_mid rfl rfl (range_below rY hw sY) Tryz.underlying44 rfl iq) hS rfl ?_
 simp only [nz]
 refine hs_t 5 34 (.tuple #[unitV, .bool true]) rfl (by kernel_rfl) (by kernel_rfl) (by kernel_rfl) (by rfl) (fun w' hw => ex_look rfl rfl rfl (hlk _ hw)) hS rfl ?_
 simp only [nz]
 refine hs_t 6 28 (?_) rfl (by kernel_rfl) (by kernel_rfl) (by kernel_rfl) (by rfl) ?_ hS rfl ?_
 rotate_left
 ·intro w' hw
  go_simp
  try with_reducible rfl
 simp only [nz]
 refine hs_t 7 35 (unitV) rfl (by kernel_rfl) (by kernel_rfl) (by kernel_rfl) (by rfl) (fun w' hw => by go_simp) hS rfl ?_
 simp only [nz]
 refine hs_t 8 36 (?_) rfl (by kernel_rfl) (by kernel_rfl) (by kernel_rfl) (by rfl) ?_ hS rfl ?_
 rotate_left
 ·intro w' hw
  go_simp
  try with_reducible rfl
 simp only [nz]
 have hS2 : (Below w8.heap.size w8) (w8.alloc (.cells ([] : List Value).toArray 70)) := (Below.refl _ _).alloc (Nat.le_refl _) _
 refine hs_run (i := 9) (d := some 8) (v := .pointer (some ⟨w8.heap.size, 0, none⟩)) (w' := w8.alloc (.cells ([] : List Value).toArray 70)) rfl (by kernel_rfl) (by rfl) (ex_alloc rfl (zeroUnitE _)) rfl hS2 ?_
 simp only [nz]
 refine hs_store (i := 10) (w' := w8.alloc (.cells ([] : List Value).toArray 70)) rfl (by kernel_rfl) (by rfl) (ex_put (cs := #[]) rfl rfl rfl (fun j hj => by cases hj) (by kernel_rfl) (by simp)) rfl hS2 ?_
 have hS := hS2
 refine hs_t 11 9 (?_) rfl (by kernel_rfl) (by kernel_rfl) (by kernel_rfl) (by rfl) ?_ hS rfl ?_
 rotate_left
 ·intro w' hw
  go_simp
  try with_reducible rfl
 simp only [nz]
 refine hs_done (by kernel_rfl) ?_
 have H9 := HD.below hS
 have HO := HO.trans (Off.of_below (F := P.own) hS) (fun _ _ q => q)
 have rX := range_below rX hS sX
 have sX := Nat.lt_of_lt_of_le sX hS.size
 have rY := range_below rY hS sY
 have sY := Nat.lt_of_lt_of_le sY hS.size
 obtain ⟨w9, hw9⟩ : ∃ w9, w8.alloc (.cells ([] : List Value).toArray 70) = w9 := ⟨_, rfl⟩
 rw [hw9] at H9 HO rX rY sX sY ⊢
 clear hS hS2 hlk c2 HD hw9
 have HF := hide H9
 have HG := hide HO
 clear H9 HO rX rY sX sY
 go_wp2_with fail
 go_ret
 exact ⟨rfl, HF.out, HG.out⟩
set_option maxRecDepth 100000 in
set_option maxHeartbeats 8000000 in
theorem nsend_old (B K : Nat) (P : Nd) (s : Nt) (dt : Int) (x : Ev) (w : World) (h : NetAt w B K P s 0) (hn : 0 < s.nodes) (hx : x.ok) (t0 : 0 ≤ dt) (t1 : dt < s.nodes) (hP : (⟨dt, x⟩ : Pk).ok) (hno : (⟨dt, x⟩ : Pk) ∉ s.on) (hi : x ∈ s.th) (hl : s.way.length < 16384) (hK : K ≤ 1000000000) (s0 : 0 ≤ s.sent) (s1 : s.sent ≤ 1000000000) : Calls Tryz.prog 13 #[.pointer (some ⟨P.p, 0, none⟩), .int .i64 dt, .agg x.cells.toArray] w fun e w' => e = .returned (.int .i64 0) ∧ Off P.own w w' ∧ ∃ P' : Nd, P'.p = P.p ∧ NetAt w' B (K + 1) P' ⟨s.nodes, s.way ++ [⟨dt, x⟩], s.on ++ [⟨dt, x⟩], s.kn, s.past, s.th, s.sent + 1, s.taken⟩ 0 ∧ ∀ b, P'.own b → P.own b ∨ w.heap.size ≤ b := by
 obtain ⟨c, hc⟩ : ∃ c : Bool, c = false ∧ (c = true ↔ (⟨dt, x⟩ : Pk) ∈ s.on) := ⟨false, rfl, (fun q => by cases q), fun q => absurd q hno⟩
 obtain ⟨hct, hc⟩ := hc
 have hc' : c = true ↔ ∃ y ∈ s.on, klP ⟨dt, x⟩ = klP y := hc.trans ⟨fun q => ⟨_, q, rfl⟩, fun ⟨y, hy, e⟩ => by rw [klP_inj hP (h.ko y hy) e]; exact hy⟩
 obtain ⟨i1, hi1, hiz, his, hib⟩ := info_parts infoPk
 have hzk : (Value.agg (infoPk0).toArray).cells.size = 19 := by decide
 have hxl : x.cells.length = 18 := EvE.len x hx
 have hpl : (⟨dt, x⟩ : Pk).cells.length = 19 := Pk.len hP
 have hp1 := pk_one ⟨dt, x⟩
 have hkp := key_pk ⟨dt, x⟩ hP
 have hbp := fun w0 => build_pk dt x.cells hxl w0
 have hbp : ∀ w0, (Instr.build 44 #[(0, .int .i64 dt), (1, .agg x.cells.toArray)]).run Tryz.prog w0 = .ok (.agg (⟨dt, x⟩ : Pk).cells.toArray) w0 := hbp
 obtain ⟨zp, hzp, hzl⟩ : ∃ z : List Value, (∀ w : World, (zeroValue 44).run Tryz.prog w = .ok (.agg z.toArray) w) ∧ z.length = 19 := ⟨infoPk0, zeroPk, rfl⟩
 obtain ⟨xq, hxq⟩ : ∃ q, Hid (x.cells = q) := ⟨_, hide rfl⟩
 obtain ⟨pq, hpq⟩ : ∃ q, Hid ((⟨dt, x⟩ : Pk).cells = q) := ⟨_, hide rfl⟩
 simp only [hxq.out, hpq.out] at hxl hpl hp1 hkp hbp ⊢
 have ix : (Tryz.prog.info? 32).map (·.size) = some xq.length := by rw [hxl]; exact isz_en
 have iq : (Tryz.prog.info? 44).map (·.size) = some pq.length := by rw [hpl]; exact isz_pk
 obtain ⟨hBk, rX, sX⟩ := boxed_new w xq 32
 have h0 := h.below hBk
 have hO : Off P.own w (w.alloc (.cells xq.toArray 32)) := Off.of_below hBk
 have nX : ∀ b, P.own b → b ≠ w.heap.size := fun b hb e => by have := h.own_lt hb; omega
 have gX : w.heap.size ≤ w.heap.size := Nat.le_refl _
 have cm := nmade_any P.p s.nodes (w.alloc (.cells xq.toArray 32)) h0.c0
 rw [decide_eq_true hn] at cm
 obtain ⟨W, hW⟩ : ∃ W, Hid (w.alloc (.cells xq.toArray 32) = W) := ⟨_, hide rfl⟩
 obtain ⟨X, hX⟩ : ∃ X, Hid (w.heap.size = X) := ⟨_, hide rfl⟩
 rw [hW.out] at rX sX h0 hO cm
 rw [hX.out] at rX sX nX
 have gX : w.heap.size ≤ X := Nat.le_of_eq hX.out
 have c0 : W.cell? ⟨P.p, 0, none⟩ = some (.int .i64 s.nodes) := h0.c0
 have k0 : ¬ dt < 0 := by omega
 have k1 : ¬ s.nodes ≤ dt := by omega
 have H0 := hide h0
 have HO := hide hO
 clear hBk h h0 hO
 go_enter Tryz.func13, Tryz.ntmps13
 go_upto_region 1 with fail
 try simp only [hW.out, hX.out]
 clear hW
 try simp only [Act.put]
 refine pl_begin ?_
 refine pl_t 11 (?_) (by rfl) ?_ rfl ?_
 rotate_left
 ·go_simp
  try with_reducible rfl
 simp only [nz]
 refine pl_call (d := some 12) (by rfl) (by go_simp; first | done | exact ⟨rfl, rfl⟩ | with_reducible rfl) rfl ?_
 refine (cm).mono ?_
 rintro _ wc ⟨rfl, hwc⟩
 refine ⟨_, rfl, ?_⟩
 simp only [nz]
 obtain rfl := hwc.symm
 refine pl_t 13 (?_) (by rfl) ?_ rfl ?_
 rotate_left
 ·go_simp
  try with_reducible rfl
 simp only [nz]
 refine pl_t 10 (?_) (by rfl) ?_ rfl ?_
 rotate_left
 ·go_simp
  try with_reducible rfl
 simp only [nz]
 refine pl_nil ?_
 clear cm
 go_upto_region 3 with fail
 try simp only [Act.put]
 refine pl_begin ?_
 refine pl_t 15 (?_) (by rfl) ?_ rfl ?_
 rotate_left
 ·go_simp
  try with_reducible rfl
 simp only [nz]
 refine pl_t 16 (.bool false) (by rfl) (by go_simp <;> (try simp [*])) rfl ?_
 simp only [nz]
 refine pl_t 17 (?_) (by rfl) ?_ rfl ?_
 rotate_left
 ·go_simp
  try with_reducible rfl
 simp only [nz]
 refine pl_t 18 (?_) (by rfl) ?_ rfl ?_
 rotate_left
 ·go_simp
  try with_reducible rfl
 simp only [nz]
 refine pl_t 19 (?_) (by rfl) ?_ rfl ?_
 rotate_left
 ·go_simp
  try with_reducible rfl
 simp only [nz]
 refine pl_t 20 (?_) (by rfl) ?_ rfl ?_
 rotate_left
 ·go_simp
  try with_reducible rfl
 simp only [nz]
 refine pl_t 21 (?_) (by rfl) ?_ rfl ?_
 rotate_left
 ·go_simp
  try with_reducible rfl
 simp only [nz]
 refine pl_t 22 (.int .i64 s.nodes) (by rfl) (pl_one rfl rfl c0 Tryz.underlying3 rfl) rfl ?_
 simp only [nz]
 refine pl_t 23 (.bool false) (by rfl) (by go_simp <;> (try simp [*])) rfl ?_
 simp only [nz]
 refine pl_t 24 (?_) (by rfl) ?_ rfl ?_
 rotate_left
 ·go_simp
  try with_reducible rfl
 simp only [nz]
 refine pl_t 14 (?_) (by rfl) ?_ rfl ?_
 rotate_left
 ·go_simp
  try with_reducible rfl
 simp only [nz]
 refine pl_nil ?_
 clear k0 k1 c0
 go_upto_region 5 with fail
 try simp only [Act.put]
 refine pl_begin ?_
 refine pl_t 25 (?_) (by rfl) ?_ rfl ?_
 rotate_left
 ·go_simp
  try with_reducible rfl
 simp only [nz]
 refine pl_t 26 (.agg xq.toArray) (by rfl) (ex_mid rfl rfl rX Tryz.underlying32 rfl ix) rfl ?_
 simp only [nz]
 refine pl_t 27 (.agg pq.toArray) (by rfl) (ex_build (parts := [(0, .tmp 25), (1, .tmp 26)]) (vs := [(0, .int .i64 dt), (1, .agg xq.toArray)]) rfl (by first | with_reducible rfl | rfl | simp [Act.eval]) (hbp _)) rfl ?_
 simp only [nz]
 refine pl_run (d := some 7) (v := .pointer (some ⟨W.heap.size, 0, none⟩)) (w' := W.alloc (.cells zp.toArray 44)) (by rfl) (ex_alloc rfl (hzp _)) rfl ?_
 simp only [nz]
 refine pl_store (w' := (W.alloc (.cells zp.toArray 44)).setCells W.heap.size 0 pq) (by rfl) (ex_put (cs := pq.toArray) rfl rfl rfl (there_newN _ _ _ (by simp [hzl, hpl])) (by simpa using iq) (all_one hp1)) rfl ?_
 refine pl_nil ?_
 obtain ⟨rY, hF, hF3, -⟩ := fresh_store W zp.toArray 44 pq (by simp [hzl, hpl])
 have HD := H0.out.below hF
 have nY : ∀ b, P.own b → b ≠ W.heap.size := fun b hb e => by have := H0.out.own_lt hb; omega
 have gY : w.heap.size ≤ W.heap.size := HO.out.size
 have nXY : X ≠ W.heap.size := by omega
 have HO := HO.out.trans (Off.of_below (F := P.own) hF) (fun _ _ q => q)
 have rX := range_below rX hF sX
 have sX := Nat.lt_of_lt_of_le sX hF.size
 have sY : W.heap.size < ((W.alloc (.cells zp.toArray 44)).setCells W.heap.size 0 pq).heap.size := by omega
 obtain ⟨Y, hY⟩ : ∃ Y, W.heap.size = Y := ⟨_, rfl⟩
 rw [hY] at rY HD nY gY nXY HO rX sX sY
 simp only [hY]
 obtain ⟨V, hV⟩ : ∃ V, (W.alloc (.cells zp.toArray 44)).setCells Y 0 pq = V := ⟨_, rfl⟩
 rw [hV] at rY HD HO rX sX sY ⊢
 clear hV hY hF hF3 H0 hzp hbp
 have HD : NetAt V.drew B K P s 0 := HD.on (Nat.le_refl _) (fun _ _ => rfl)
 have HO := HO.drew
 have rX : V.drew.rangeAt X 0 xq := (World.rangeAt_drew _ _ _ _).2 rX
 have rY : V.drew.rangeAt Y 0 pq := (World.rangeAt_drew _ _ _ _).2 rY
 have sX : X < V.drew.heap.size := sX
 have sY : Y < V.drew.heap.size := sY
 have hlk : ∀ w', Below V.drew.heap.size V.drew w' → (Instr.lookup 68 (.map (some P.m2)) (.agg pq.toArray) true).run Tryz.prog w' = .ok (.tuple #[unitV, .bool c]) w' := fun w' hb => by
  have := (HD.g2.at (hb.block _ HD.g2.lt)).look lawPk Tryz.underlying68 (zeroUnit w') hkp c hc'
  simpa using this
 have c2 : ∀ w', Below V.drew.heap.size V.drew w' → w'.cell? ⟨P.p, 2, none⟩ = some (.map (some P.m2)) := fun w' hb => (HD.on hb.size (fun b hq => hb.block b (HD.own_lt hq))).c 2 _ rfl
 clear hc hc'
 subst hct
 go_upto_region 6 with fail
 refine hs_begin (S := (Below V.drew.heap.size V.drew)) 12 rfl (by kernel_rfl) ?_
 obtain ⟨w8, hw8⟩ : ∃ w8, V.drew = w8 := ⟨_, rfl⟩
 rw [hw8] at HD rX rY sX sY HO ⊢
 simp only [hw8] at hlk c2
 have hS : (Below w8.heap.size w8) w8 := Below.refl _ _
 clear hw8
 refine hs_t 0 29 (?_) rfl (by kernel_rfl) (by kernel_rfl) (by kernel_rfl) (by rfl) ?_ hS rfl ?_
 rotate_left
 ·intro w' hw
  go_simp
  try with_reducible rfl
 simp only [nz]
 refine hs_t 1 30 (?_) rfl (by kernel_rfl) (by kernel_rfl) (by kernel_rfl) (by rfl) ?_ hS rfl ?_
 rotate_left
 ·intro w' hw
  go_simp
  try with_reducible rfl
 simp only [nz]
 refine hs_t 2 31 (?_) rfl (by kernel_rfl) (by kernel_rfl) (by kernel_rfl) (by rfl) ?_ hS rfl ?_
 rotate_left
 ·intro w' hw
  go_simp
  try with_reducible rfl
 simp only [nz]
 refine hs_t 3 32 (.map (some P.m2)) rfl (by kernel_rfl) (by kernel_rfl) (by kernel_rfl) (by rfl) (fun w' hw => pl_one rfl rfl (c2 _ hw) Tryz.underlying68 rfl) hS rfl ?_
 simp only [nz]
 refine hs_t 4 33 (.agg pq.toArray) rfl (by kernel_rfl) (by kernel_rfl) (by kernel_rfl) (by rfl) (fun w' hw => ex_mid rfl rfl (range_below rY hw sY) Tryz.underlying44 rfl iq) hS rfl ?_
 simp only [nz]
 refine hs_t 5 34 (.tuple #[unitV, .bool false]) rfl (by kernel_rfl) (by kernel_rfl) (by kernel_rfl) (by rfl) (fun w' hw => ex_look rfl rfl rfl (hlk _ hw)) hS rfl ?_
 simp only [nz]
 refine hs_t 6 28 (?_) rfl (by kernel_rfl) (by kernel_rfl) (by kernel_rfl) (by rfl) ?_ hS rfl ?_
 rotate_left
 ·intro w' hw
  go_simp
  try with_reducible rfl
 simp only [nz]
 refine hs_t 7 35 (unitV) rfl (by kernel_rfl) (by kernel_rfl) (by kernel_rfl) (by rfl) (fun w' hw => by go_simp) hS rfl ?_
 simp only [nz]
 refine hs_t 8 36 (?_) rfl (by kernel_rfl) (by kernel_rfl) (by kernel_rfl) (by rfl) ?_ hS rfl ?_
 rotate_left
 ·intro w' hw
  go_simp
  try with_reducible rfl
 simp only [nz]
 have hS2 : (Below w8.heap.size w8) (w8.alloc (.cells ([] : List Value).toArray 70)) := (Below.refl _ _).alloc (Nat.le_refl _) _
 refine hs_run (i := 9) (d := some 8) (v := .pointer (some ⟨w8.heap.size, 0, none⟩)) (w' := w8.alloc (.cells ([] : List Value).toArray 70)) rfl (by kernel_rfl) (by rfl) (ex_alloc rfl (zeroUnitE _)) rfl hS2 ?_
 simp only [nz]
 refine hs_store (i := 10) (w' := w8.alloc (.cells ([] : List Value).toArray 70)) rfl (by kernel_rfl) (by rfl) (ex_put (cs := #[]) rfl rfl rfl (fun j hj => by cases hj) (by kernel_rfl) (by simp)) rfl hS2 ?_
 have hS := hS2
 refine hs_t 11 9 (?_) rfl (by kernel_rfl) (by kernel_rfl) (by kernel_rfl) (by rfl) ?_ hS rfl ?_
 rotate_left
 ·intro w' hw
  go_simp
  try with_reducible rfl
 simp only [nz]
 refine hs_done (by kernel_rfl) ?_
 have H9 := HD.below hS
 have HO := HO.trans (Off.of_below (F := P.own) hS) (fun _ _ q => q)
 have rX := range_below rX hS sX
 have sX := Nat.lt_of_lt_of_le sX hS.size
 have rY := range_below rY hS sY
 have sY := Nat.lt_of_lt_of_le sY hS.size
 obtain ⟨w9, hw9⟩ : ∃ w9, w8.alloc (.cells ([] : List Value).toArray 70) = w9 := ⟨_, rfl⟩
 rw [hw9] at H9 HO rX rY sX sY ⊢
 clear hS hS2 hlk c2 HD hw9
 obtain ⟨a1, cap1, hv1⟩ := H9.o1.slice
 have c1 : w9.cell? ⟨P.p, 1, none⟩ = some (.slice a1 s.way.length cap1) := (H9.c 1 _ rfl).trans (congrArg some hv1)
 have hl : ¬ (16384 : Int) ≤ (s.way.length : Int) := by omega
 obtain ⟨nw, hnw⟩ : ∃ n, Hid (s.way.length = n) := ⟨_, hide rfl⟩
 rw [hnw.out] at c1 hl
 have HV1 := hide hv1
 clear hv1
 go_upto_region 9 with fail
 try simp only [Act.put]
 refine pl_begin ?_
 refine pl_t 38 (?_) (by rfl) ?_ rfl ?_
 rotate_left
 ·go_simp
  try with_reducible rfl
 simp only [nz]
 refine pl_t 39 (?_) (by rfl) ?_ rfl ?_
 rotate_left
 ·go_simp
  try with_reducible rfl
 simp only [nz]
 refine pl_t 40 (?_) (by rfl) ?_ rfl ?_
 rotate_left
 ·go_simp
  try with_reducible rfl
 simp only [nz]
 refine pl_t 41 (.slice a1 nw cap1) (by rfl) (pl_one rfl rfl c1 Tryz.underlying67 rfl) rfl ?_
 simp only [nz]
 refine pl_t 42 (?_) (by rfl) ?_ rfl ?_
 rotate_left
 ·go_simp
  try with_reducible rfl
 simp only [nz]
 refine pl_t 43 (.bool false) (by rfl) (by go_simp <;> (try simp [*])) rfl ?_
 simp only [nz]
 refine pl_nil ?_
 clear hl c1 HV1
 go_upto_region 11 with fail
 go_cut [] (fun wx => Hid (∃ v1', NetAt wx B K ⟨P.p, v1', P.v6, P.m2, P.m3, P.m7⟩ ⟨s.nodes, s.way ++ [⟨dt, x⟩], s.on, s.kn, s.past, s.th, s.sent, s.taken⟩ 0 ∧ Off P.own w wx ∧ wx.rangeAt X 0 xq ∧ wx.rangeAt Y 0 pq ∧ X < wx.heap.size ∧ Y < wx.heap.size ∧ ∀ b, Nd.own ⟨P.p, v1', P.v6, P.m2, P.m3, P.m7⟩ b → P.own b ∨ w.heap.size ≤ b ∧ b ≠ X ∧ b ≠ Y))
 case first =>
  have H9 : NetAt w9.drew B K P s 0 := H9.on (Nat.le_refl _) (fun _ _ => rfl)
  have HB := HO.drew
  have rX : w9.drew.rangeAt X 0 xq := (World.rangeAt_drew _ _ _ _).2 rX
  have rY : w9.drew.rangeAt Y 0 pq := (World.rangeAt_drew _ _ _ _).2 rY
  have sX1 : X < w9.drew.heap.size := sX
  have sY1 : Y < w9.drew.heap.size := sY
  refine hs_begin (S := fun w' : World => w'.rangeAt X 0 xq ∧ w'.rangeAt Y 0 pq) 11 rfl (by kernel_rfl) ?_
  obtain ⟨u2, hu2⟩ : ∃ u, w9.drew = u := ⟨_, rfl⟩
  rw [hu2] at H9 HB rX rY sX1 sY1 ⊢
  clear hu2
  have hN := H9
  have hS : (fun w' : World => w'.rangeAt X 0 xq ∧ w'.rangeAt Y 0 pq) u2 := ⟨rX, rY⟩
  have c6 : u2.cell? ⟨P.p, 1, none⟩ = some P.v1 := hN.c 1 _ rfl
  have B2 : Below u2.heap.size u2 (u2.alloc (.cells pq.toArray 44)) := (Below.refl _ _).alloc (Nat.le_refl _) _
  have r2 : (u2.alloc (.cells pq.toArray 44)).rangeAt u2.heap.size 0 pq := by simpa using range_new u2 pq.toArray 44
  have hN2 := hN.below B2
  have rX2 : (fun w' : World => w'.rangeAt X 0 xq ∧ w'.rangeAt Y 0 pq) (u2.alloc (.cells pq.toArray 44)) := ⟨range_below rX B2 sX1, range_below rY B2 sY1⟩
  have bB : B ≤ u2.heap.size := Nat.le_trans hN.bp (Nat.le_of_lt hN.lt)
  refine hs_t 0 44 (?_) rfl (by kernel_rfl) (by kernel_rfl) (by kernel_rfl) (by rfl) ?_ hS rfl ?_
  rotate_left
  ·intro w' hw
   go_simp
   try with_reducible rfl
  simp only [nz]
  refine hs_t 1 45 (?_) rfl (by kernel_rfl) (by kernel_rfl) (by kernel_rfl) (by rfl) ?_ hS rfl ?_
  rotate_left
  ·intro w' hw
   go_simp
   try with_reducible rfl
  simp only [nz]
  refine hs_t 2 46 (?_) rfl (by kernel_rfl) (by kernel_rfl) (by kernel_rfl) (by rfl) ?_ hS rfl ?_
  rotate_left
  ·intro w' hw
   go_simp
   try with_reducible rfl
  simp only [nz]
  refine hs_t 3 47 (?_) rfl (by kernel_rfl) (by kernel_rfl) (by kernel_rfl) (by rfl) ?_ hS rfl ?_
  rotate_left
  ·intro w' hw
   go_simp
   try with_reducible rfl
  simp only [nz]
  refine hs_t 5 49 (.agg pq.toArray) rfl (by kernel_rfl) (by kernel_rfl) (by kernel_rfl) (by rfl) (fun w' hw => ex_mid rfl rfl hw.2 Tryz.underlying44 rfl iq) hS rfl ?_
  simp only [nz]
  refine hs_forkL (l := [4, 6]) (by kernel_rfl) (by simp) ?_
  intro ii hii
  simp only [List.mem_cons, List.not_mem_nil, or_false] at hii
  rcases hii with rfl | rfl
  ·refine st_run (i := 4) (d := some 48) (v := P.v1) (w' := u2) rfl (by rfl) (pl_one rfl rfl c6 Tryz.underlying67 rfl) rfl hS ?_
   simp only [nz]
   refine hs_run (i := 6) (d := some 50) (v := .slice (some ⟨u2.heap.size, 0, none⟩) 1 1) (w' := u2.alloc (.cells pq.toArray 44)) rfl (by kernel_rfl) (by rfl) (exec_bs1 rfl rfl (run_bs1 67 44 i1 _ pq Tryz.underlying67 hi1 hiz (by rw [his, hpl]) (by omega) (by omega) _)) rfl rX2 ?_
   simp only [nz]
   obtain ⟨Z, hZ⟩ : ∃ Z, u2.heap.size = Z := ⟨_, rfl⟩
   obtain ⟨u3, hu3⟩ : ∃ u, u2.alloc (.cells pq.toArray 44) = u := ⟨_, rfl⟩
   rw [hu3] at B2 r2 hN2 rX2 ⊢
   have sX2 : X < u3.heap.size := Nat.lt_of_lt_of_le sX1 B2.size
   have sY2 : Y < u3.heap.size := Nat.lt_of_lt_of_le sY1 B2.size
   have bB3 : B ≤ u3.heap.size := Nat.le_trans bB B2.size
   have HB := HB.trans (Off.of_below (F := P.own) B2) (fun _ _ q => q)
   clear hu3
   refine hs_runX (i := 7) (d := some 51) rfl (by kernel_rfl) (by rfl) rfl (ex_appQ rfl rfl rfl Tryz.underlying67 hi1 hiz his (by rw [hib]; decide) rfl hN2.o1 bB3 r2 hpl hp1 (by omega) hzk (by decide)) ?_
   rintro v6 u4 ⟨o6, g6, gb6⟩
   have hN3 := hN2.addWay ⟨dt, x⟩ hP (by rw [hpq.out]; exact o6) g6 gb6
   have nV : ∀ b, b < u3.heap.size → (∀ q, P.own q → q ≠ b) → u4.heap[b]? = u3.heap[b]? := fun b h1 h2 => g6.block b h1 (fun e => h2 b (.inr (.inr (.inr (.inr (.inl e.symm))))) rfl)
   have rX4 : u4.rangeAt X 0 xq := range_at rX2.1 (nV X sX2 nX)
   have rY4 : u4.rangeAt Y 0 pq := range_at rX2.2 (nV Y sY2 nY)
   have t4 : u4.there P.p 0 10 := cells_blk hN2.t (g6.block P.p hN2.lt (fun e => (hN2.r1 _ e.symm).1 rfl))
   have rX5 : (u4.setCell ⟨P.p, 1, none⟩ v6).rangeAt X 0 xq := range_at rX4 (Below.heap_setCell u4 ⟨P.p, 1, none⟩ _ X (fun e => nX _ (.inl rfl) e.symm))
   have rY5 : (u4.setCell ⟨P.p, 1, none⟩ v6).rangeAt Y 0 pq := range_at rY4 (Below.heap_setCell u4 ⟨P.p, 1, none⟩ _ Y (fun e => nY _ (.inl rfl) e.symm))
   have hv6 := o6.cellC
   have HB4 : Off P.own w (u4.setCell ⟨P.p, 1, none⟩ v6) := (HB.trans (Off.of_grown (F := P.own) g6 (fun k hk => .inr (.inr (.inr (.inr (.inl hk)))))) (fun _ _ q => q)).trans (Off.cell u4 1 v6) (fun _ _ q => q)
   have zz : w.heap.size ≤ u3.heap.size := HB.size
   refine ⟨⟨rX4, rY4⟩, ?_⟩
   have hS : (fun w' : World => w'.rangeAt X 0 xq ∧ w'.rangeAt Y 0 pq) u4 := ⟨rX4, rY4⟩
   simp only [nz]
   refine hs_t 8 52 (?_) rfl (by kernel_rfl) (by kernel_rfl) (by kernel_rfl) (by rfl) ?_ hS rfl ?_
   rotate_left
   ·intro w' hw
    go_simp
    try with_reducible rfl
   simp only [nz]
   refine hs_t 9 53 (?_) rfl (by kernel_rfl) (by kernel_rfl) (by kernel_rfl) (by rfl) ?_ hS rfl ?_
   rotate_left
   ·intro w' hw
    go_simp
    try with_reducible rfl
   simp only [nz]
   refine hs_store (i := 10) (w' := u4.setCell ⟨P.p, 1, none⟩ v6) rfl (by kernel_rfl) (by rfl) (ex_put1 (n := 10) rfl rfl rfl t4 (by decide) isz_pks hv6.1 hv6.2) rfl ⟨rX5, rY5⟩ ?_
   refine hs_done (by kernel_rfl) ?_
   have HF : Hid (∃ v1', NetAt (u4.setCell ⟨P.p, 1, none⟩ v6) B K ⟨P.p, v1', P.v6, P.m2, P.m3, P.m7⟩ ⟨s.nodes, s.way ++ [⟨dt, x⟩], s.on, s.kn, s.past, s.th, s.sent, s.taken⟩ 0 ∧ Off P.own w (u4.setCell ⟨P.p, 1, none⟩ v6) ∧ (u4.setCell ⟨P.p, 1, none⟩ v6).rangeAt X 0 xq ∧ (u4.setCell ⟨P.p, 1, none⟩ v6).rangeAt Y 0 pq ∧ X < (u4.setCell ⟨P.p, 1, none⟩ v6).heap.size ∧ Y < (u4.setCell ⟨P.p, 1, none⟩ v6).heap.size ∧ ∀ b, Nd.own ⟨P.p, v1', P.v6, P.m2, P.m3, P.m7⟩ b → P.own b ∨ w.heap.size ≤ b ∧ b ≠ X ∧ b ≠ Y) := hide ⟨v6, hN3, HB4, rX5, rY5, by have := g6.size; simp; omega, by have := g6.size; simp; omega, fun b hb => by
    rcases own_v1 (n := u3.heap.size) gb6 b hb with q | q
    ·exact .inl q
    ·exact .inr ⟨Nat.le_trans zz q, by omega, by omega⟩⟩
   obtain ⟨u5, hu5⟩ : ∃ u, u4.setCell ⟨P.p, 1, none⟩ v6 = u := ⟨_, rfl⟩
   rw [hu5] at HF ⊢
   clear hN3 HB4 gb6 zz hS rX5 rY5 rX4 rY4 t4 hv6 o6 g6 hN2 hN HB rX2 r2 B2 c6 hu5 hZ
   go_wp2_with fail
   go_meet
   exact HF
  ·refine st_run (i := 6) (d := some 50) (v := .slice (some ⟨u2.heap.size, 0, none⟩) 1 1) (w' := u2.alloc (.cells pq.toArray 44)) rfl (by rfl) (exec_bs1 rfl rfl (run_bs1 67 44 i1 _ pq Tryz.underlying67 hi1 hiz (by rw [his, hpl]) (by omega) (by omega) _)) rfl rX2 ?_
   simp only [nz]
   refine hs_run (i := 4) (d := some 48) (v := P.v1) (w' := u2.alloc (.cells pq.toArray 44)) rfl (by kernel_rfl) (by rfl) (pl_one rfl rfl (hN2.c 1 _ rfl) Tryz.underlying67 rfl) rfl rX2 ?_
   simp only [nz]
   obtain ⟨Z, hZ⟩ : ∃ Z, u2.heap.size = Z := ⟨_, rfl⟩
   obtain ⟨u3, hu3⟩ : ∃ u, u2.alloc (.cells pq.toArray 44) = u := ⟨_, rfl⟩
   rw [hu3] at B2 r2 hN2 rX2 ⊢
   have sX2 : X < u3.heap.size := Nat.lt_of_lt_of_le sX1 B2.size
   have sY2 : Y < u3.heap.size := Nat.lt_of_lt_of_le sY1 B2.size
   have bB3 : B ≤ u3.heap.size := Nat.le_trans bB B2.size
   have HB := HB.trans (Off.of_below (F := P.own) B2) (fun _ _ q => q)
   clear hu3
   refine hs_runX (i := 7) (d := some 51) rfl (by kernel_rfl) (by rfl) rfl (ex_appQ rfl rfl rfl Tryz.underlying67 hi1 hiz his (by rw [hib]; decide) rfl hN2.o1 bB3 r2 hpl hp1 (by omega) hzk (by decide)) ?_
   rintro v6 u4 ⟨o6, g6, gb6⟩
   have hN3 := hN2.addWay ⟨dt, x⟩ hP (by rw [hpq.out]; exact o6) g6 gb6
   have nV : ∀ b, b < u3.heap.size → (∀ q, P.own q → q ≠ b) → u4.heap[b]? = u3.heap[b]? := fun b h1 h2 => g6.block b h1 (fun e => h2 b (.inr (.inr (.inr (.inr (.inl e.symm))))) rfl)
   have rX4 : u4.rangeAt X 0 xq := range_at rX2.1 (nV X sX2 nX)
   have rY4 : u4.rangeAt Y 0 pq := range_at rX2.2 (nV Y sY2 nY)
   have t4 : u4.there P.p 0 10 := cells_blk hN2.t (g6.block P.p hN2.lt (fun e => (hN2.r1 _ e.symm).1 rfl))
   have rX5 : (u4.setCell ⟨P.p, 1, none⟩ v6).rangeAt X 0 xq := range_at rX4 (Below.heap_setCell u4 ⟨P.p, 1, none⟩ _ X (fun e => nX _ (.inl rfl) e.symm))
   have rY5 : (u4.setCell ⟨P.p, 1, none⟩ v6).rangeAt Y 0 pq := range_at rY4 (Below.heap_setCell u4 ⟨P.p, 1, none⟩ _ Y (fun e => nY _ (.inl rfl) e.symm))
   have hv6 := o6.cellC
   have HB4 : Off P.own w (u4.setCell ⟨P.p, 1, none⟩ v6) := (HB.trans (Off.of_grown (F := P.own) g6 (fun k hk => .inr (.inr (.inr (.inr (.inl hk)))))) (fun _ _ q => q)).trans (Off.cell u4 1 v6) (fun _ _ q => q)
   have zz : w.heap.size ≤ u3.heap.size := HB.size
   refine ⟨⟨rX4, rY4⟩, ?_⟩
   have hS : (fun w' : World => w'.rangeAt X 0 xq ∧ w'.rangeAt Y 0 pq) u4 := ⟨rX4, rY4⟩
   simp only [nz]
   refine hs_t 8 52 (?_) rfl (by kernel_rfl) (by kernel_rfl) (by kernel_rfl) (by rfl) ?_ hS rfl ?_
   rotate_left
   ·intro w' hw
    go_simp
    try with_reducible rfl
   simp only [nz]
   refine hs_t 9 53 (?_) rfl (by kernel_rfl) (by kernel_rfl) (by kernel_rfl) (by rfl) ?_ hS rfl ?_
   rotate_left
   ·intro w' hw
    go_simp
    try with_reducible rfl
   simp only [nz]
   refine hs_store (i := 10) (w' := u4.setCell ⟨P.p, 1, none⟩ v6) rfl (by kernel_rfl) (by rfl) (ex_put1 (n := 10) rfl rfl rfl t4 (by decide) isz_pks hv6.1 hv6.2) rfl ⟨rX5, rY5⟩ ?_
   refine hs_done (by kernel_rfl) ?_
   have HF : Hid (∃ v1', NetAt (u4.setCell ⟨P.p, 1, none⟩ v6) B K ⟨P.p, v1', P.v6, P.m2, P.m3, P.m7⟩ ⟨s.nodes, s.way ++ [⟨dt, x⟩], s.on, s.kn, s.past, s.th, s.sent, s.taken⟩ 0 ∧ Off P.own w (u4.setCell ⟨P.p, 1, none⟩ v6) ∧ (u4.setCell ⟨P.p, 1, none⟩ v6).rangeAt X 0 xq ∧ (u4.setCell ⟨P.p, 1, none⟩ v6).rangeAt Y 0 pq ∧ X < (u4.setCell ⟨P.p, 1, none⟩ v6).heap.size ∧ Y < (u4.setCell ⟨P.p, 1, none⟩ v6).heap.size ∧ ∀ b, Nd.own ⟨P.p, v1', P.v6, P.m2, P.m3, P.m7⟩ b → P.own b ∨ w.heap.size ≤ b ∧ b ≠ X ∧ b ≠ Y) := hide ⟨v6, hN3, HB4, rX5, rY5, by have := g6.size; simp; omega, by have := g6.size; simp; omega, fun b hb => by
    rcases own_v1 (n := u3.heap.size) gb6 b hb with q | q
    ·exact .inl q
    ·exact .inr ⟨Nat.le_trans zz q, by omega, by omega⟩⟩
   obtain ⟨u5, hu5⟩ : ∃ u, u4.setCell ⟨P.p, 1, none⟩ v6 = u := ⟨_, rfl⟩
   rw [hu5] at HF ⊢
   clear hN3 HB4 gb6 zz hS rX5 rY5 rX4 rY4 t4 hv6 o6 g6 hN2 hN HB rX2 r2 B2 c6 hu5 hZ
   go_wp2_with fail
   go_meet
   exact HF
 case rest =>
  obtain ⟨v1, hN, hO, rX, rY, sX, sY, hG⟩ := hcut.out
  have gx : ∀ b, Nd.own ⟨P.p, v1, P.v6, P.m2, P.m3, P.m7⟩ b → P.own b ∨ w.heap.size ≤ b := fun b hb => (hG b hb).imp (fun q => q) (fun q => q.1)
  have n1X : ∀ b, Nd.own ⟨P.p, v1, P.v6, P.m2, P.m3, P.m7⟩ b → b ≠ X := fun b hb => by
   rcases hG b hb with q | q
   ·exact nX b q
   ·exact q.2.1
  have n1Y : ∀ b, Nd.own ⟨P.p, v1, P.v6, P.m2, P.m3, P.m7⟩ b → b ≠ Y := fun b hb => by
   rcases hG b hb with q | q
   ·exact nY b q
   ·exact q.2.2
  have GX := hide gx
  clear hcut H9 HO hG gx nX nY
  have hN : NetAt wc.drew B K ⟨P.p, v1, P.v6, P.m2, P.m3, P.m7⟩ ⟨s.nodes, s.way ++ [⟨dt, x⟩], s.on, s.kn, s.past, s.th, s.sent, s.taken⟩ 0 := hN.on (Nat.le_refl _) (fun _ _ => rfl)
  have HO := hO.drew
  have rX : wc.drew.rangeAt X 0 xq := (World.rangeAt_drew _ _ _ _).2 rX
  have rY : wc.drew.rangeAt Y 0 pq := (World.rangeAt_drew _ _ _ _).2 rY
  have sX : X < wc.drew.heap.size := sX
  have sY : Y < wc.drew.heap.size := sY
  clear hO
  obtain ⟨P1, hP1⟩ : ∃ Q, Hid ((⟨P.p, v1, P.v6, P.m2, P.m3, P.m7⟩ : Nd) = Q) := ⟨_, hide rfl⟩
  have p1 : P1.p = P.p := by rw [← hP1.out]
  have m1 : P1.m2 = P.m2 := by rw [← hP1.out]
  rw [hP1.out] at hN n1X n1Y GX
  rw [← p1]
  have PH := hide p1
  clear p1 m1
  go_upto_region 12 with fail
  refine hs_begin (S := fun w' : World => w'.rangeAt P1.p 0 (netL P1 ⟨s.nodes, s.way ++ [⟨dt, x⟩], s.on, s.kn, s.past, s.th, s.sent, s.taken⟩ 0) ∧ w'.rangeAt Y 0 pq) 7 rfl (by kernel_rfl) ?_
  obtain ⟨u0, hu0⟩ : ∃ u, wc.drew = u := ⟨_, rfl⟩
  rw [hu0] at hN HO rX rY sX sY ⊢
  clear hu0
  obtain ⟨u1, hrun, hm, hg⟩ := hN.g2.store lawPk Tryz.underlying68 hkp (by omega)
  have hN1 := hN.addOn ⟨dt, x⟩ hP hm hg
  have hblk : ∀ b, b < u0.heap.size → b ≠ P1.m2 → u1.heap[b]? = u0.heap[b]? := fun b h1 h2 => hg.block b h1 (fun e => h2 (Option.some.inj e))
  have cN : u0.rangeAt P1.p 0 (netL P1 ⟨s.nodes, s.way ++ [⟨dt, x⟩], s.on, s.kn, s.past, s.th, s.sent, s.taken⟩ 0) := hN.c
  have cN1 : u1.rangeAt P1.p 0 (netL P1 ⟨s.nodes, s.way ++ [⟨dt, x⟩], s.on, s.kn, s.past, s.th, s.sent, s.taken⟩ 0) := range_at cN (hblk _ hN.lt hN.n2.symm)
  have rY1 : u1.rangeAt Y 0 pq := range_at rY (hblk Y sY (fun e => n1Y P1.m2 (.inr (.inl rfl)) e.symm))
  have rX1 : u1.rangeAt X 0 xq := range_at rX (hblk X sX (fun e => n1X P1.m2 (.inr (.inl rfl)) e.symm))
  have sX1 := Nat.lt_of_lt_of_le sX hg.size
  have HO := HO.grow (Off.of_grown (F := P1.own) hg (fun k hk => by cases hk; exact .inr (.inl rfl))) GX.out
  have hS : (fun w' : World => w'.rangeAt P1.p 0 (netL P1 ⟨s.nodes, s.way ++ [⟨dt, x⟩], s.on, s.kn, s.past, s.th, s.sent, s.taken⟩ 0) ∧ w'.rangeAt Y 0 pq) u0 := ⟨cN, rY⟩
  refine hs_t 0 54 (?_) rfl (by kernel_rfl) (by kernel_rfl) (by kernel_rfl) (by rfl) ?_ hS rfl ?_
  rotate_left
  ·intro w' hw
   go_simp
   try with_reducible rfl
  simp only [nz]
  refine hs_t 1 55 (?_) rfl (by kernel_rfl) (by kernel_rfl) (by kernel_rfl) (by rfl) ?_ hS rfl ?_
  rotate_left
  ·intro w' hw
   go_simp
   try with_reducible rfl
  simp only [nz]
  refine hs_t 2 56 (?_) rfl (by kernel_rfl) (by kernel_rfl) (by kernel_rfl) (by rfl) ?_ hS rfl ?_
  rotate_left
  ·intro w' hw
   go_simp
   try with_reducible rfl
  simp only [nz]
  refine hs_t 3 57 (.map (some P1.m2)) rfl (by kernel_rfl) (by kernel_rfl) (by kernel_rfl) (by rfl) (fun w' hw => pl_one rfl rfl (hw.1 2 _ rfl) Tryz.underlying68 rfl) hS rfl ?_
  simp only [nz]
  refine hs_t 4 58 (.agg pq.toArray) rfl (by kernel_rfl) (by kernel_rfl) (by kernel_rfl) (by rfl) (fun w' hw => ex_mid rfl rfl hw.2 Tryz.underlying44 rfl iq) hS rfl ?_
  simp only [nz]
  refine hs_t 5 59 (unitV) rfl (by kernel_rfl) (by kernel_rfl) (by kernel_rfl) (by rfl) (fun w' hw => ex_build (parts := []) (vs := []) rfl rfl (buildUnit _)) hS rfl ?_
  simp only [nz]
  refine hs_store (i := 6) (w' := u1) rfl (by kernel_rfl) (by rfl) (ex_mapUp rfl rfl rfl rfl hrun) rfl ⟨cN1, rY1⟩ ?_
  refine hs_done (by kernel_rfl) ?_
  clear hS hrun hm hg hblk cN cN1 hN rX rY sX sY hkp rY1
  have ca := aadd_any P1.p 8 s.sent u1 (hN1.c 8 _ rfl) hN1.f8 s0 s1
  have HN2 := hN1.sentAt (s.sent + 1)
  have HO := HO.grow (Off.cell (P := P1) u1 8 (.int .i64 (s.sent + 1))) GX.out
  have rX2 : (u1.setCell ⟨P1.p, 8, none⟩ (.int .i64 (s.sent + 1))).rangeAt X 0 xq := range_at rX1 (Below.heap_setCell u1 ⟨P1.p, 8, none⟩ _ X (fun e => n1X _ (.inl rfl) e.symm))
  have sX2 : X < (u1.setCell ⟨P1.p, 8, none⟩ (.int .i64 (s.sent + 1))).heap.size := by simpa using sX1
  obtain ⟨u2, hu2⟩ : ∃ u, u1.setCell ⟨P1.p, 8, none⟩ (.int .i64 (s.sent + 1)) = u := ⟨_, rfl⟩
  rw [hu2] at HN2 HO rX2 sX2
  simp only [hu2] at ca
  clear hu2 hN1 rX1 sX1
  go_upto_region 13 with fail
  try simp only [Act.put]
  refine pl_begin ?_
  refine pl_t 60 (?_) (by rfl) ?_ rfl ?_
  rotate_left
  ·go_simp
   try with_reducible rfl
  simp only [nz]
  refine pl_t 61 (?_) (by rfl) ?_ rfl ?_
  rotate_left
  ·go_simp
   try with_reducible rfl
  simp only [nz]
  refine pl_t 62 (.pointer (some ⟨P1.p, 8, none⟩)) (by rfl) (by go_simp) rfl ?_
  simp only [nz]
  refine pl_call (d := some 63) (by rfl) (by go_simp; first | done | exact ⟨rfl, rfl⟩ | with_reducible rfl) rfl ?_
  refine (ca).mono ?_
  rintro _ wd ⟨rfl, hwd⟩
  refine ⟨_, rfl, ?_⟩
  simp only [nz]
  obtain rfl := hwd.symm
  refine pl_nil ?_
  clear ca
  have HN3 : NetAt u2.drew B (K + 1) P1 ⟨s.nodes, s.way ++ [⟨dt, x⟩], s.on ++ [⟨dt, x⟩], s.kn, s.past, s.th, s.sent + 1, s.taken⟩ 0 := HN2.on (Nat.le_refl _) (fun _ _ => rfl)
  have HO := HO.drew
  have rX3 : u2.drew.rangeAt X 0 xq := (World.rangeAt_drew _ _ _ _).2 rX2
  have sX3 : X < u2.drew.heap.size := sX2
  clear HN2 rX2 sX2
  go_upto_region 14 with fail
  refine hs_begin (S := fun w' : World => w'.rangeAt X 0 xq) 5 rfl (by kernel_rfl) ?_
  obtain ⟨u3, hu3⟩ : ∃ u, u2.drew = u := ⟨_, rfl⟩
  rw [hu3] at HN3 HO rX3 sX3 ⊢
  clear hu3
  have hS : (fun w' : World => w'.rangeAt X 0 xq) u3 := rX3
  have ch := hadd_yes B (K + 1) P1 ⟨s.nodes, s.way ++ [⟨dt, x⟩], s.on ++ [⟨dt, x⟩], s.kn, s.past, s.th, s.sent + 1, s.taken⟩ x u3 HN3 hx hi
  rw [hxq.out] at ch
  refine hs_t 0 64 (?_) rfl (by kernel_rfl) (by kernel_rfl) (by kernel_rfl) (by rfl) ?_ hS rfl ?_
  rotate_left
  ·intro w' hw
   go_simp
   try with_reducible rfl
  simp only [nz]
  refine hs_t 1 65 (?_) rfl (by kernel_rfl) (by kernel_rfl) (by kernel_rfl) (by rfl) ?_ hS rfl ?_
  rotate_left
  ·intro w' hw
   go_simp
   try with_reducible rfl
  simp only [nz]
  refine hs_t 2 66 (.pointer (some ⟨P1.p, 4, none⟩)) rfl (by kernel_rfl) (by kernel_rfl) (by kernel_rfl) (by rfl) (fun w' hw => by go_simp) hS rfl ?_
  simp only [nz]
  refine hs_t 3 67 (.agg xq.toArray) rfl (by kernel_rfl) (by kernel_rfl) (by kernel_rfl) (by rfl) (fun w' hw => ex_mid rfl rfl hw Tryz.underlying32 rfl ix) hS rfl ?_
  simp only [nz]
  refine hs_call (i := 4) (d := some 68) rfl (by kernel_rfl) (by rfl) (by go_simp; first | done | exact ⟨rfl, rfl⟩ | with_reducible rfl) rfl ?_
  refine ch.mono ?_
  rintro _ u4 ⟨rfl, hN4, hO4⟩
  refine ⟨_, rfl, range_at rX3 (hO4.2 X sX3 (fun q => n1X X q rfl)), ?_⟩
  simp only [nz]
  refine hs_done (by kernel_rfl) ?_
  have HF := hide hN4
  have HG := hide (HO.grow hO4 GX.out)
  clear hN4 hO4 HN3 HO rX3 sX3 ch hS n1X n1Y
  go_wp2_with fail
  go_ret
  exact ⟨rfl, HG.out, P1, PH.out, HF.out, GX.out⟩
set_option maxRecDepth 100000 in
set_option maxHeartbeats 8000000 in
theorem nsend_new (B K : Nat) (P : Nd) (s : Nt) (dt : Int) (x : Ev) (w : World) (h : NetAt w B K P s 0) (hn : 0 < s.nodes) (hx : x.ok) (t0 : 0 ≤ dt) (t1 : dt < s.nodes) (hP : (⟨dt, x⟩ : Pk).ok) (hno : (⟨dt, x⟩ : Pk) ∉ s.on) (hi : x ∉ s.th) (hl : s.way.length < 16384) (hK : K + 1 + 1 + 1 + (claimsC s.nodes x.s).length ≤ 1000000000) (hpn : s.past.length ≤ 1000000000) (hxs : x.s.size ≤ 40000) (s0 : 0 ≤ s.sent) (s1 : s.sent ≤ 1000000000) : Calls Tryz.prog 13 #[.pointer (some ⟨P.p, 0, none⟩), .int .i64 dt, .agg x.cells.toArray] w fun e w' => e = .returned (.int .i64 0) ∧ Off P.own w w' ∧ ∃ P' : Nd, P'.p = P.p ∧ NetAt w' B (K + 1 + 1 + 1 + (claimsC s.nodes x.s).length) P' ⟨s.nodes, s.way ++ [⟨dt, x⟩], s.on ++ [⟨dt, x⟩], s.kn ++ x :: claimsC s.nodes x.s, s.past ++ [x], s.th ++ [x], s.sent + 1, s.taken⟩ 0 ∧ ∀ b, P'.own b → P.own b ∨ w.heap.size ≤ b := by
 obtain ⟨c, hc⟩ : ∃ c : Bool, c = false ∧ (c = true ↔ (⟨dt, x⟩ : Pk) ∈ s.on) := ⟨false, rfl, (fun q => by cases q), fun q => absurd q hno⟩
 obtain ⟨hct, hc⟩ := hc
 have hc' : c = true ↔ ∃ y ∈ s.on, klP ⟨dt, x⟩ = klP y := hc.trans ⟨fun q => ⟨_, q, rfl⟩, fun ⟨y, hy, e⟩ => by rw [klP_inj hP (h.ko y hy) e]; exact hy⟩
 obtain ⟨i1, hi1, hiz, his, hib⟩ := info_parts infoPk
 have hzk : (Value.agg (infoPk0).toArray).cells.size = 19 := by decide
 have hxl : x.cells.length = 18 := EvE.len x hx
 have hpl : (⟨dt, x⟩ : Pk).cells.length = 19 := Pk.len hP
 have hp1 := pk_one ⟨dt, x⟩
 have hkp := key_pk ⟨dt, x⟩ hP
 have hbp := fun w0 => build_pk dt x.cells hxl w0
 have hbp : ∀ w0, (Instr.build 44 #[(0, .int .i64 dt), (1, .agg x.cells.toArray)]).run Tryz.prog w0 = .ok (.agg (⟨dt, x⟩ : Pk).cells.toArray) w0 := hbp
 obtain ⟨zp, hzp, hzl⟩ : ∃ z : List Value, (∀ w : World, (zeroValue 44).run Tryz.prog w = .ok (.agg z.toArray) w) ∧ z.length = 19 := ⟨infoPk0, zeroPk, rfl⟩
 obtain ⟨xq, hxq⟩ : ∃ q, Hid (x.cells = q) := ⟨_, hide rfl⟩
 obtain ⟨pq, hpq⟩ : ∃ q, Hid ((⟨dt, x⟩ : Pk).cells = q) := ⟨_, hide rfl⟩
 simp only [hxq.out, hpq.out] at hxl hpl hp1 hkp hbp ⊢
 have ix : (Tryz.prog.info? 32).map (·.size) = some xq.length := by rw [hxl]; exact isz_en
 have iq : (Tryz.prog.info? 44).map (·.size) = some pq.length := by rw [hpl]; exact isz_pk
 obtain ⟨hBk, rX, sX⟩ := boxed_new w xq 32
 have h0 := h.below hBk
 have hO : Off P.own w (w.alloc (.cells xq.toArray 32)) := Off.of_below hBk
 have nX : ∀ b, P.own b → b ≠ w.heap.size := fun b hb e => by have := h.own_lt hb; omega
 have gX : w.heap.size ≤ w.heap.size := Nat.le_refl _
 have cm := nmade_any P.p s.nodes (w.alloc (.cells xq.toArray 32)) h0.c0
 rw [decide_eq_true hn] at cm
 obtain ⟨W, hW⟩ : ∃ W, Hid (w.alloc (.cells xq.toArray 32) = W) := ⟨_, hide rfl⟩
 obtain ⟨X, hX⟩ : ∃ X, Hid (w.heap.size = X) := ⟨_, hide rfl⟩
 rw [hW.out] at rX sX h0 hO cm
 rw [hX.out] at rX sX nX
 have gX : w.heap.size ≤ X := Nat.le_of_eq hX.out
 have c0 : W.cell? ⟨P.p, 0, none⟩ = some (.int .i64 s.nodes) := h0.c0
 have k0 : ¬ dt < 0 := by omega
 have k1 : ¬ s.nodes ≤ dt := by omega
 have H0 := hide h0
 have HO := hide hO
 clear hBk h h0 hO
 go_enter Tryz.func13, Tryz.ntmps13
 go_upto_region 1 with fail
 try simp only [hW.out, hX.out]
 clear hW
 try simp only [Act.put]
 refine pl_begin ?_
 refine pl_t 11 (?_) (by rfl) ?_ rfl ?_
 rotate_left
 ·go_simp
  try with_reducible rfl
 simp only [nz]
 refine pl_call (d := some 12) (by rfl) (by go_simp; first | done | exact ⟨rfl, rfl⟩ | with_reducible rfl) rfl ?_
 refine (cm).mono ?_
 rintro _ wc ⟨rfl, hwc⟩
 refine ⟨_, rfl, ?_⟩
 simp only [nz]
 obtain rfl := hwc.symm
 refine pl_t 13 (?_) (by rfl) ?_ rfl ?_
 rotate_left
 ·go_simp
  try with_reducible rfl
 simp only [nz]
 refine pl_t 10 (?_) (by rfl) ?_ rfl ?_
 rotate_left
 ·go_simp
  try with_reducible rfl
 simp only [nz]
 refine pl_nil ?_
 clear cm
 go_upto_region 3 with fail
 try simp only [Act.put]
 refine pl_begin ?_
 refine pl_t 15 (?_) (by rfl) ?_ rfl ?_
 rotate_left
 ·go_simp
  try with_reducible rfl
 simp only [nz]
 refine pl_t 16 (.bool false) (by rfl) (by go_simp <;> (try simp [*])) rfl ?_
 simp only [nz]
 refine pl_t 17 (?_) (by rfl) ?_ rfl ?_
 rotate_left
 ·go_simp
  try with_reducible rfl
 simp only [nz]
 refine pl_t 18 (?_) (by rfl) ?_ rfl ?_
 rotate_left
 ·go_simp
  try with_reducible rfl
 simp only [nz]
 refine pl_t 19 (?_) (by rfl) ?_ rfl ?_
 rotate_left
 ·go_simp
  try with_reducible rfl
 simp only [nz]
 refine pl_t 20 (?_) (by rfl) ?_ rfl ?_
 rotate_left
 ·go_simp
  try with_reducible rfl
 simp only [nz]
 refine pl_t 21 (?_) (by rfl) ?_ rfl ?_
 rotate_left
 ·go_simp
  try with_reducible rfl
 simp only [nz]
 refine pl_t 22 (.int .i64 s.nodes) (by rfl) (pl_one rfl rfl c0 Tryz.underlying3 rfl) rfl ?_
 simp only [nz]
 refine pl_t 23 (.bool false) (by rfl) (by go_simp <;> (try simp [*])) rfl ?_
 simp only [nz]
 refine pl_t 24 (?_) (by rfl) ?_ rfl ?_
 rotate_left
 ·go_simp
  try with_reducible rfl
 simp only [nz]
 refine pl_t 14 (?_) (by rfl) ?_ rfl ?_
 rotate_left
 ·go_simp
  try with_reducible rfl
 simp only [nz]
 refine pl_nil ?_
 clear k0 k1 c0
 go_upto_region 5 with fail
 try simp only [Act.put]
 refine pl_begin ?_
 refine pl_t 25 (?_) (by rfl) ?_ rfl ?_
 rotate_left
 ·go_simp
  try with_reducible rfl
 simp only [nz]
 refine pl_t 26 (.agg xq.toArray) (by rfl) (ex_mid rfl rfl rX Tryz.underlying32 rfl ix) rfl ?_
 simp only [nz]
 refine pl_t 27 (.agg pq.toArray) (by rfl) (ex_build (parts := [(0, .tmp 25), (1, .tmp 26)]) (vs := [(0, .int .i64 dt), (1, .agg xq.toArray)]) rfl (by first | with_reducible rfl | rfl | simp [Act.eval]) (hbp _)) rfl ?_
 simp only [nz]
 refine pl_run (d := some 7) (v := .pointer (some ⟨W.heap.size, 0, none⟩)) (w' := W.alloc (.cells zp.toArray 44)) (by rfl) (ex_alloc rfl (hzp _)) rfl ?_
 simp only [nz]
 refine pl_store (w' := (W.alloc (.cells zp.toArray 44)).setCells W.heap.size 0 pq) (by rfl) (ex_put (cs := pq.toArray) rfl rfl rfl (there_newN _ _ _ (by simp [hzl, hpl])) (by simpa using iq) (all_one hp1)) rfl ?_
 refine pl_nil ?_
 obtain ⟨rY, hF, hF3, -⟩ := fresh_store W zp.toArray 44 pq (by simp [hzl, hpl])
 have HD := H0.out.below hF
 have nY : ∀ b, P.own b → b ≠ W.heap.size := fun b hb e => by have := H0.out.own_lt hb; omega
 have gY : w.heap.size ≤ W.heap.size := HO.out.size
 have nXY : X ≠ W.heap.size := by omega
 have HO := HO.out.trans (Off.of_below (F := P.own) hF) (fun _ _ q => q)
 have rX := range_below rX hF sX
 have sX := Nat.lt_of_lt_of_le sX hF.size
 have sY : W.heap.size < ((W.alloc (.cells zp.toArray 44)).setCells W.heap.size 0 pq).heap.size := by omega
 obtain ⟨Y, hY⟩ : ∃ Y, W.heap.size = Y := ⟨_, rfl⟩
 rw [hY] at rY HD nY gY nXY HO rX sX sY
 simp only [hY]
 obtain ⟨V, hV⟩ : ∃ V, (W.alloc (.cells zp.toArray 44)).setCells Y 0 pq = V := ⟨_, rfl⟩
 rw [hV] at rY HD HO rX sX sY ⊢
 clear hV hY hF hF3 H0 hzp hbp
 have HD : NetAt V.drew B K P s 0 := HD.on (Nat.le_refl _) (fun _ _ => rfl)
 have HO := HO.drew
 have rX : V.drew.rangeAt X 0 xq := (World.rangeAt_drew _ _ _ _).2 rX
 have rY : V.drew.rangeAt Y 0 pq := (World.rangeAt_drew _ _ _ _).2 rY
 have sX : X < V.drew.heap.size := sX
 have sY : Y < V.drew.heap.size := sY
 have hlk : ∀ w', Below V.drew.heap.size V.drew w' → (Instr.lookup 68 (.map (some P.m2)) (.agg pq.toArray) true).run Tryz.prog w' = .ok (.tuple #[unitV, .bool c]) w' := fun w' hb => by
  have := (HD.g2.at (hb.block _ HD.g2.lt)).look lawPk Tryz.underlying68 (zeroUnit w') hkp c hc'
  simpa using this
 have c2 : ∀ w', Below V.drew.heap.size V.drew w' → w'.cell? ⟨P.p, 2, none⟩ = some (.map (some P.m2)) := fun w' hb => (HD.on hb.size (fun b hq => hb.block b (HD.own_lt hq))).c 2 _ rfl
 clear hc hc'
 subst hct
 go_upto_region 6 with fail
 refine hs_begin (S := (Below V.drew.heap.size V.drew)) 12 rfl (by kernel_rfl) ?_
 obtain ⟨w8, hw8⟩ : ∃ w8, V.drew = w8 := ⟨_, rfl⟩
 rw [hw8] at HD rX rY sX sY HO ⊢
 simp only [hw8] at hlk c2
 have hS : (Below w8.heap.size w8) w8 := Below.refl _ _
 clear hw8
 refine hs_t 0 29 (?_) rfl (by kernel_rfl) (by kernel_rfl) (by kernel_rfl) (by rfl) ?_ hS rfl ?_
 rotate_left
 ·intro w' hw
  go_simp
  try with_reducible rfl
 simp only [nz]
 refine hs_t 1 30 (?_) rfl (by kernel_rfl) (by kernel_rfl) (by kernel_rfl) (by rfl) ?_ hS rfl ?_
 rotate_left
 ·intro w' hw
  go_simp
  try with_reducible rfl
 simp only [nz]
 refine hs_t 2 31 (?_) rfl (by kernel_rfl) (by kernel_rfl) (by kernel_rfl) (by rfl) ?_ hS rfl ?_
 rotate_left
 ·intro w' hw
  go_simp
  try with_reducible rfl
 simp only [nz]
 refine hs_t 3 32 (.map (some P.m2)) rfl (by kernel_rfl) (by kernel_rfl) (by kernel_rfl) (by rfl) (fun w' hw => pl_one rfl rfl (c2 _ hw) Tryz.underlying68 rfl) hS rfl ?_
 simp only [nz]
 refine hs_t 4 33 (.agg pq.toArray) rfl (by kernel_rfl) (by kernel_rfl) (by kernel_rfl) (by rfl) (fun w' hw => ex_mid rfl rfl (range_below rY hw sY) Tryz.underlying44 rfl iq) hS rfl ?_
 simp only [nz]
 refine hs_t 5 34 (.tuple #[unitV, .bool false]) rfl (by kernel_rfl) (by kernel_rfl) (by kernel_rfl) (by rfl) (fun w' hw => ex_look rfl rfl rfl (hlk _ hw)) hS rfl ?_
 simp only [nz]
 refine hs_t 6 28 (?_) rfl (by kernel_rfl) (by kernel_rfl) (by kernel_rfl) (by rfl) ?_ hS rfl ?_
 rotate_left
 ·intro w' hw
  go_simp
  try with_reducible rfl
 simp only [nz]
 refine hs_t 7 35 (unitV) rfl (by kernel_rfl) (by kernel_rfl) (by kernel_rfl) (by rfl) (fun w' hw => by go_simp) hS rfl ?_
 simp only [nz]
 refine hs_t 8 36 (?_) rfl (by kernel_rfl) (by kernel_rfl) (by kernel_rfl) (by rfl) ?_ hS rfl ?_
 rotate_left
 ·intro w' hw
  go_simp
  try with_reducible rfl
 simp only [nz]
 have hS2 : (Below w8.heap.size w8) (w8.alloc (.cells ([] : List Value).toArray 70)) := (Below.refl _ _).alloc (Nat.le_refl _) _
 refine hs_run (i := 9) (d := some 8) (v := .pointer (some ⟨w8.heap.size, 0, none⟩)) (w' := w8.alloc (.cells ([] : List Value).toArray 70)) rfl (by kernel_rfl) (by rfl) (ex_alloc rfl (zeroUnitE _)) rfl hS2 ?_
 simp only [nz]
 refine hs_store (i := 10) (w' := w8.alloc (.cells ([] : List Value).toArray 70)) rfl (by kernel_rfl) (by rfl) (ex_put (cs := #[]) rfl rfl rfl (fun j hj => by cases hj) (by kernel_rfl) (by simp)) rfl hS2 ?_
 have hS := hS2
 refine hs_t 11 9 (?_) rfl (by kernel_rfl) (by kernel_rfl) (by kernel_rfl) (by rfl) ?_ hS rfl ?_
 rotate_left
 ·intro w' hw
  go_simp
  try with_reducible rfl
 simp only [nz]
 refine hs_done (by kernel_rfl) ?_
 have H9 := HD.below hS
 have HO := HO.trans (Off.of_below (F := P.own) hS) (fun _ _ q => q)
 have rX := range_below rX hS sX
 have sX := Nat.lt_of_lt_of_le sX hS.size
 have rY := range_below rY hS sY
 have sY := Nat.lt_of_lt_of_le sY hS.size
 obtain ⟨w9, hw9⟩ : ∃ w9, w8.alloc (.cells ([] : List Value).toArray 70) = w9 := ⟨_, rfl⟩
 rw [hw9] at H9 HO rX rY sX sY ⊢
 clear hS hS2 hlk c2 HD hw9
 obtain ⟨a1, cap1, hv1⟩ := H9.o1.slice
 have c1 : w9.cell? ⟨P.p, 1, none⟩ = some (.slice a1 s.way.length cap1) := (H9.c 1 _ rfl).trans (congrArg some hv1)
 have hl : ¬ (16384 : Int) ≤ (s.way.length : Int) := by omega
 obtain ⟨nw, hnw⟩ : ∃ n, Hid (s.way.length = n) := ⟨_, hide rfl⟩
 rw [hnw.out] at c1 hl
 have HV1 := hide hv1
 clear hv1
 go_upto_region 9 with fail
 try simp only [Act.put]
 refine pl_begin ?_
 refine pl_t 38 (?_) (by rfl) ?_ rfl ?_
 rotate_left
 ·go_simp
  try with_reducible rfl
 simp only [nz]
 refine pl_t 39 (?_) (by rfl) ?_ rfl ?_
 rotate_left
 ·go_simp
  try with_reducible rfl
 simp only [nz]
 refine pl_t 40 (?_) (by rfl) ?_ rfl ?_
 rotate_left
 ·go_simp
  try with_reducible rfl
 simp only [nz]
 refine pl_t 41 (.slice a1 nw cap1) (by rfl) (pl_one rfl rfl c1 Tryz.underlying67 rfl) rfl ?_
 simp only [nz]
 refine pl_t 42 (?_) (by rfl) ?_ rfl ?_
 rotate_left
 ·go_simp
  try with_reducible rfl
 simp only [nz]
 refine pl_t 43 (.bool false) (by rfl) (by go_simp <;> (try simp [*])) rfl ?_
 simp only [nz]
 refine pl_nil ?_
 clear hl c1 HV1
 go_upto_region 11 with fail
 go_cut [] (fun wx => Hid (∃ v1', NetAt wx B K ⟨P.p, v1', P.v6, P.m2, P.m3, P.m7⟩ ⟨s.nodes, s.way ++ [⟨dt, x⟩], s.on, s.kn, s.past, s.th, s.sent, s.taken⟩ 0 ∧ Off P.own w wx ∧ wx.rangeAt X 0 xq ∧ wx.rangeAt Y 0 pq ∧ X < wx.heap.size ∧ Y < wx.heap.size ∧ ∀ b, Nd.own ⟨P.p, v1', P.v6, P.m2, P.m3, P.m7⟩ b → P.own b ∨ w.heap.size ≤ b ∧ b ≠ X ∧ b ≠ Y))
 case first =>
  have H9 : NetAt w9.drew B K P s 0 := H9.on (Nat.le_refl _) (fun _ _ => rfl)
  have HB := HO.drew
  have rX : w9.drew.rangeAt X 0 xq := (World.rangeAt_drew _ _ _ _).2 rX
  have rY : w9.drew.rangeAt Y 0 pq := (World.rangeAt_drew _ _ _ _).2 rY
  have sX1 : X < w9.drew.heap.size := sX
  have sY1 : Y < w9.drew.heap.size := sY
  refine hs_begin (S := fun w' : World => w'.rangeAt X 0 xq ∧ w'.rangeAt Y 0 pq) 11 rfl (by kernel_rfl) ?_
  obtain ⟨u2, hu2⟩ : ∃ u, w9.drew = u := ⟨_, rfl⟩
  rw [hu2] at H9 HB rX rY sX1 sY1 ⊢
  clear hu2
  have hN := H9
  have hS : (fun w' : World => w'.rangeAt X 0 xq ∧ w'.rangeAt Y 0 pq) u2 := ⟨rX, rY⟩
  have c6 : u2.cell? ⟨P.p, 1, none⟩ = some P.v1 := hN.c 1 _ rfl
  have B2 : Below u2.heap.size u2 (u2.alloc (.cells pq.toArray 44)) := (Below.refl _ _).alloc (Nat.le_refl _) _
  have r2 : (u2.alloc (.cells pq.toArray 44)).rangeAt u2.heap.size 0 pq := by simpa using range_new u2 pq.toArray 44
  have hN2 := hN.below B2
  have rX2 : (fun w' : World => w'.rangeAt X 0 xq ∧ w'.rangeAt Y 0 pq) (u2.alloc (.cells pq.toArray 44)) := ⟨range_below rX B2 sX1, range_below rY B2 sY1⟩
  have bB : B ≤ u2.heap.size := Nat.le_trans hN.bp (Nat.le_of_lt hN.lt)
  refine hs_t 0 44 (?_) rfl (by kernel_rfl) (by kernel_rfl) (by kernel_rfl) (by rfl) ?_ hS rfl ?_
  rotate_left
  ·intro w' hw
   go_simp
   try with_reducible rfl
  simp only [nz]
  refine hs_t 1 45 (?_) rfl (by kernel_rfl) (by kernel_rfl) (by kernel_rfl) (by rfl) ?_ hS rfl ?_
  rotate_left
  ·intro w' hw
   go_simp
   try with_reducible rfl
  simp only [nz]
  refine hs_t 2 46 (?_) rfl (by kernel_rfl) (by kernel_rfl) (by kernel_rfl) (by rfl) ?_ hS rfl ?_
  rotate_left
  ·intro w' hw
   go_simp
   try with_reducible rfl
  simp only [nz]
  refine hs_t 3 47 (?_) rfl (by kernel_rfl) (by kernel_rfl) (by kernel_rfl) (by rfl) ?_ hS rfl ?_
  rotate_left
  ·intro w' hw
   go_simp
   try with_reducible rfl
  simp only [nz]
  refine hs_t 5 49 (.agg pq.toArray) rfl (by kernel_rfl) (by kernel_rfl) (by kernel_rfl) (by rfl) (fun w' hw => ex_mid rfl rfl hw.2 Tryz.underlying44 rfl iq) hS rfl ?_
  simp only [nz]
  refine hs_forkL (l := [4, 6]) (by kernel_rfl) (by simp) ?_
  intro ii hii
  simp only [List.mem_cons, List.not_mem_nil, or_false] at hii
  rcases hii with rfl | rfl
  ·refine st_run (i := 4) (d := some 48) (v := P.v1) (w' := u2) rfl (by rfl) (pl_one rfl rfl c6 Tryz.underlying67 rfl) rfl hS ?_
   simp only [nz]
   refine hs_run (i := 6) (d := some 50) (v := .slice (some ⟨u2.heap.size, 0, none⟩) 1 1) (w' := u2.alloc (.cells pq.toArray 44)) rfl (by kernel_rfl) (by rfl) (exec_bs1 rfl rfl (run_bs1 67 44 i1 _ pq Tryz.underlying67 hi1 hiz (by rw [his, hpl]) (by omega) (by omega) _)) rfl rX2 ?_
   simp only [nz]
   obtain ⟨Z, hZ⟩ : ∃ Z, u2.heap.size = Z := ⟨_, rfl⟩
   obtain ⟨u3, hu3⟩ : ∃ u, u2.alloc (.cells pq.toArray 44) = u := ⟨_, rfl⟩
   rw [hu3] at B2 r2 hN2 rX2 ⊢
   have sX2 : X < u3.heap.size := Nat.lt_of_lt_of_le sX1 B2.size
   have sY2 : Y < u3.heap.size := Nat.lt_of_lt_of_le sY1 B2.size
   have bB3 : B ≤ u3.heap.size := Nat.le_trans bB B2.size
   have HB := HB.trans (Off.of_below (F := P.own) B2) (fun _ _ q => q)
   clear hu3
   refine hs_runX (i := 7) (d := some 51) rfl (by kernel_rfl) (by rfl) rfl (ex_appQ rfl rfl rfl Tryz.underlying67 hi1 hiz his (by rw [hib]; decide) rfl hN2.o1 bB3 r2 hpl hp1 (by omega) hzk (by decide)) ?_
   rintro v6 u4 ⟨o6, g6, gb6⟩
   have hN3 := hN2.addWay ⟨dt, x⟩ hP (by rw [hpq.out]; exact o6) g6 gb6
   have nV : ∀ b, b < u3.heap.size → (∀ q, P.own q → q ≠ b) → u4.heap[b]? = u3.heap[b]? := fun b h1 h2 => g6.block b h1 (fun e => h2 b (.inr (.inr (.inr (.inr (.inl e.symm))))) rfl)
   have rX4 : u4.rangeAt X 0 xq := range_at rX2.1 (nV X sX2 nX)
   have rY4 : u4.rangeAt Y 0 pq := range_at rX2.2 (nV Y sY2 nY)
   have t4 : u4.there P.p 0 10 := cells_blk hN2.t (g6.block P.p hN2.lt (fun e => (hN2.r1 _ e.symm).1 rfl))
   have rX5 : (u4.setCell ⟨P.p, 1, none⟩ v6).rangeAt X 0 xq := range_at rX4 (Below.heap_setCell u4 ⟨P.p, 1, none⟩ _ X (fun e => nX _ (.inl rfl) e.symm))
   have rY5 : (u4.setCell ⟨P.p, 1, none⟩ v6).rangeAt Y 0 pq := range_at rY4 (Below.heap_setCell u4 ⟨P.p, 1, none⟩ _ Y (fun e => nY _ (.inl rfl) e.symm))
   have hv6 := o6.cellC
   have HB4 : Off P.own w (u4.setCell ⟨P.p, 1, none⟩ v6) := (HB.trans (Off.of_grown (F := P.own) g6 (fun k hk => .inr (.inr (.inr (.inr (.inl hk)))))) (fun _ _ q => q)).trans (Off.cell u4 1 v6) (fun _ _ q => q)
   have zz : w.heap.size ≤ u3.heap.size := HB.size
   refine ⟨⟨rX4, rY4⟩, ?_⟩
   have hS : (fun w' : World => w'.rangeAt X 0 xq ∧ w'.rangeAt Y 0 pq) u4 := ⟨rX4, rY4⟩
   simp only [nz]
   refine hs_t 8 52 (?_) rfl (by kernel_rfl) (by kernel_rfl) (by kernel_rfl) (by rfl) ?_ hS rfl ?_
   rotate_left
   ·intro w' hw
    go_simp
    try with_reducible rfl
   simp only [nz]
   refine hs_t 9 53 (?_) rfl (by kernel_rfl) (by kernel_rfl) (by kernel_rfl) (by rfl) ?_ hS rfl ?_
   rotate_left
   ·intro w' hw
    go_simp
    try with_reducible rfl
   simp only [nz]
   refine hs_store (i := 10) (w' := u4.setCell ⟨P.p, 1, none⟩ v6) rfl (by kernel_rfl) (by rfl) (ex_put1 (n := 10) rfl rfl rfl t4 (by decide) isz_pks hv6.1 hv6.2) rfl ⟨rX5, rY5⟩ ?_
   refine hs_done (by kernel_rfl) ?_
   have HF : Hid (∃ v1', NetAt (u4.setCell ⟨P.p, 1, none⟩ v6) B K ⟨P.p, v1', P.v6, P.m2, P.m3, P.m7⟩ ⟨s.nodes, s.way ++ [⟨dt, x⟩], s.on, s.kn, s.past, s.th, s.sent, s.taken⟩ 0 ∧ Off P.own w (u4.setCell ⟨P.p, 1, none⟩ v6) ∧ (u4.setCell ⟨P.p, 1, none⟩ v6).rangeAt X 0 xq ∧ (u4.setCell ⟨P.p, 1, none⟩ v6).rangeAt Y 0 pq ∧ X < (u4.setCell ⟨P.p, 1, none⟩ v6).heap.size ∧ Y < (u4.setCell ⟨P.p, 1, none⟩ v6).heap.size ∧ ∀ b, Nd.own ⟨P.p, v1', P.v6, P.m2, P.m3, P.m7⟩ b → P.own b ∨ w.heap.size ≤ b ∧ b ≠ X ∧ b ≠ Y) := hide ⟨v6, hN3, HB4, rX5, rY5, by have := g6.size; simp; omega, by have := g6.size; simp; omega, fun b hb => by
    rcases own_v1 (n := u3.heap.size) gb6 b hb with q | q
    ·exact .inl q
    ·exact .inr ⟨Nat.le_trans zz q, by omega, by omega⟩⟩
   obtain ⟨u5, hu5⟩ : ∃ u, u4.setCell ⟨P.p, 1, none⟩ v6 = u := ⟨_, rfl⟩
   rw [hu5] at HF ⊢
   clear hN3 HB4 gb6 zz hS rX5 rY5 rX4 rY4 t4 hv6 o6 g6 hN2 hN HB rX2 r2 B2 c6 hu5 hZ
   go_wp2_with fail
   go_meet
   exact HF
  ·refine st_run (i := 6) (d := some 50) (v := .slice (some ⟨u2.heap.size, 0, none⟩) 1 1) (w' := u2.alloc (.cells pq.toArray 44)) rfl (by rfl) (exec_bs1 rfl rfl (run_bs1 67 44 i1 _ pq Tryz.underlying67 hi1 hiz (by rw [his, hpl]) (by omega) (by omega) _)) rfl rX2 ?_
   simp only [nz]
   refine hs_run (i := 4) (d := some 48) (v := P.v1) (w' := u2.alloc (.cells pq.toArray 44)) rfl (by kernel_rfl) (by rfl) (pl_one rfl rfl (hN2.c 1 _ rfl) Tryz.underlying67 rfl) rfl rX2 ?_
   simp only [nz]
   obtain ⟨Z, hZ⟩ : ∃ Z, u2.heap.size = Z := ⟨_, rfl⟩
   obtain ⟨u3, hu3⟩ : ∃ u, u2.alloc (.cells pq.toArray 44) = u := ⟨_, rfl⟩
   rw [hu3] at B2 r2 hN2 rX2 ⊢
   have sX2 : X < u3.heap.size := Nat.lt_of_lt_of_le sX1 B2.size
   have sY2 : Y < u3.heap.size := Nat.lt_of_lt_of_le sY1 B2.size
   have bB3 : B ≤ u3.heap.size := Nat.le_trans bB B2.size
   have HB := HB.trans (Off.of_below (F := P.own) B2) (fun _ _ q => q)
   clear hu3
   refine hs_runX (i := 7) (d := some 51) rfl (by kernel_rfl) (by rfl) rfl (ex_appQ rfl rfl rfl Tryz.underlying67 hi1 hiz his (by rw [hib]; decide) rfl hN2.o1 bB3 r2 hpl hp1 (by omega) hzk (by decide)) ?_
   rintro v6 u4 ⟨o6, g6, gb6⟩
   have hN3 := hN2.addWay ⟨dt, x⟩ hP (by rw [hpq.out]; exact o6) g6 gb6
   have nV : ∀ b, b < u3.heap.size → (∀ q, P.own q → q ≠ b) → u4.heap[b]? = u3.heap[b]? := fun b h1 h2 => g6.block b h1 (fun e => h2 b (.inr (.inr (.inr (.inr (.inl e.symm))))) rfl)
   have rX4 : u4.rangeAt X 0 xq := range_at rX2.1 (nV X sX2 nX)
   have rY4 : u4.rangeAt Y 0 pq := range_at rX2.2 (nV Y sY2 nY)
   have t4 : u4.there P.p 0 10 := cells_blk hN2.t (g6.block P.p hN2.lt (fun e => (hN2.r1 _ e.symm).1 rfl))
   have rX5 : (u4.setCell ⟨P.p, 1, none⟩ v6).rangeAt X 0 xq := range_at rX4 (Below.heap_setCell u4 ⟨P.p, 1, none⟩ _ X (fun e => nX _ (.inl rfl) e.symm))
   have rY5 : (u4.setCell ⟨P.p, 1, none⟩ v6).rangeAt Y 0 pq := range_at rY4 (Below.heap_setCell u4 ⟨P.p, 1, none⟩ _ Y (fun e => nY _ (.inl rfl) e.symm))
   have hv6 := o6.cellC
   have HB4 : Off P.own w (u4.setCell ⟨P.p, 1, none⟩ v6) := (HB.trans (Off.of_grown (F := P.own) g6 (fun k hk => .inr (.inr (.inr (.inr (.inl hk)))))) (fun _ _ q => q)).trans (Off.cell u4 1 v6) (fun _ _ q => q)
   have zz : w.heap.size ≤ u3.heap.size := HB.size
   refine ⟨⟨rX4, rY4⟩, ?_⟩
   have hS : (fun w' : World => w'.rangeAt X 0 xq ∧ w'.rangeAt Y 0 pq) u4 := ⟨rX4, rY4⟩
   simp only [nz]
   refine hs_t 8 52 (?_) rfl (by kernel_rfl) (by kernel_rfl) (by kernel_rfl) (by rfl) ?_ hS rfl ?_
   rotate_left
   ·intro w' hw
    go_simp
    try with_reducible rfl
   simp only [nz]
   refine hs_t 9 53 (?_) rfl (by kernel_rfl) (by kernel_rfl) (by kernel_rfl) (by rfl) ?_ hS rfl ?_
   rotate_left
   ·intro w' hw
    go_simp
    try with_reducible rfl
   simp only [nz]
   refine hs_store (i := 10) (w' := u4.setCell ⟨P.p, 1, none⟩ v6) rfl (by kernel_rfl) (by rfl) (ex_put1 (n := 10) rfl rfl rfl t4 (by decide) isz_pks hv6.1 hv6.2) rfl ⟨rX5, rY5⟩ ?_
   refine hs_done (by kernel_rfl) ?_
   have HF : Hid (∃ v1', NetAt (u4.setCell ⟨P.p, 1, none⟩ v6) B K ⟨P.p, v1', P.v6, P.m2, P.m3, P.m7⟩ ⟨s.nodes, s.way ++ [⟨dt, x⟩], s.on, s.kn, s.past, s.th, s.sent, s.taken⟩ 0 ∧ Off P.own w (u4.setCell ⟨P.p, 1, none⟩ v6) ∧ (u4.setCell ⟨P.p, 1, none⟩ v6).rangeAt X 0 xq ∧ (u4.setCell ⟨P.p, 1, none⟩ v6).rangeAt Y 0 pq ∧ X < (u4.setCell ⟨P.p, 1, none⟩ v6).heap.size ∧ Y < (u4.setCell ⟨P.p, 1, none⟩ v6).heap.size ∧ ∀ b, Nd.own ⟨P.p, v1', P.v6, P.m2, P.m3, P.m7⟩ b → P.own b ∨ w.heap.size ≤ b ∧ b ≠ X ∧ b ≠ Y) := hide ⟨v6, hN3, HB4, rX5, rY5, by have := g6.size; simp; omega, by have := g6.size; simp; omega, fun b hb => by
    rcases own_v1 (n := u3.heap.size) gb6 b hb with q | q
    ·exact .inl q
    ·exact .inr ⟨Nat.le_trans zz q, by omega, by omega⟩⟩
   obtain ⟨u5, hu5⟩ : ∃ u, u4.setCell ⟨P.p, 1, none⟩ v6 = u := ⟨_, rfl⟩
   rw [hu5] at HF ⊢
   clear hN3 HB4 gb6 zz hS rX5 rY5 rX4 rY4 t4 hv6 o6 g6 hN2 hN HB rX2 r2 B2 c6 hu5 hZ
   go_wp2_with fail
   go_meet
   exact HF
 case rest =>
  obtain ⟨v1, hN, hO, rX, rY, sX, sY, hG⟩ := hcut.out
  have gx : ∀ b, Nd.own ⟨P.p, v1, P.v6, P.m2, P.m3, P.m7⟩ b → P.own b ∨ w.heap.size ≤ b := fun b hb => (hG b hb).imp (fun q => q) (fun q => q.1)
  have n1X : ∀ b, Nd.own ⟨P.p, v1, P.v6, P.m2, P.m3, P.m7⟩ b → b ≠ X := fun b hb => by
   rcases hG b hb with q | q
   ·exact nX b q
   ·exact q.2.1
  have n1Y : ∀ b, Nd.own ⟨P.p, v1, P.v6, P.m2, P.m3, P.m7⟩ b → b ≠ Y := fun b hb => by
   rcases hG b hb with q | q
   ·exact nY b q
   ·exact q.2.2
  have GX := hide gx
  clear hcut H9 HO hG gx nX nY
  have hN : NetAt wc.drew B K ⟨P.p, v1, P.v6, P.m2, P.m3, P.m7⟩ ⟨s.nodes, s.way ++ [⟨dt, x⟩], s.on, s.kn, s.past, s.th, s.sent, s.taken⟩ 0 := hN.on (Nat.le_refl _) (fun _ _ => rfl)
  have HO := hO.drew
  have rX : wc.drew.rangeAt X 0 xq := (World.rangeAt_drew _ _ _ _).2 rX
  have rY : wc.drew.rangeAt Y 0 pq := (World.rangeAt_drew _ _ _ _).2 rY
  have sX : X < wc.drew.heap.size := sX
  have sY : Y < wc.drew.heap.size := sY
  clear hO
  obtain ⟨P1, hP1⟩ : ∃ Q, Hid ((⟨P.p, v1, P.v6, P.m2, P.m3, P.m7⟩ : Nd) = Q) := ⟨_, hide rfl⟩
  have p1 : P1.p = P.p := by rw [← hP1.out]
  have m1 : P1.m2 = P.m2 := by rw [← hP1.out]
  rw [hP1.out] at hN n1X n1Y GX
  rw [← p1]
  have PH := hide p1
  clear p1 m1
  go_upto_region 12 with fail
  refine hs_begin (S := fun w' : World => w'.rangeAt P1.p 0 (netL P1 ⟨s.nodes, s.way ++ [⟨dt, x⟩], s.on, s.kn, s.past, s.th, s.sent, s.taken⟩ 0) ∧ w'.rangeAt Y 0 pq) 7 rfl (by kernel_rfl) ?_
  obtain ⟨u0, hu0⟩ : ∃ u, wc.drew = u := ⟨_, rfl⟩
  rw [hu0] at hN HO rX rY sX sY ⊢
  clear hu0
  obtain ⟨u1, hrun, hm, hg⟩ := hN.g2.store lawPk Tryz.underlying68 hkp (by omega)
  have hN1 := hN.addOn ⟨dt, x⟩ hP hm hg
  have hblk : ∀ b, b < u0.heap.size → b ≠ P1.m2 → u1.heap[b]? = u0.heap[b]? := fun b h1 h2 => hg.block b h1 (fun e => h2 (Option.some.inj e))
  have cN : u0.rangeAt P1.p 0 (netL P1 ⟨s.nodes, s.way ++ [⟨dt, x⟩], s.on, s.kn, s.past, s.th, s.sent, s.taken⟩ 0) := hN.c
  have cN1 : u1.rangeAt P1.p 0 (netL P1 ⟨s.nodes, s.way ++ [⟨dt, x⟩], s.on, s.kn, s.past, s.th, s.sent, s.taken⟩ 0) := range_at cN (hblk _ hN.lt hN.n2.symm)
  have rY1 : u1.rangeAt Y 0 pq := range_at rY (hblk Y sY (fun e => n1Y P1.m2 (.inr (.inl rfl)) e.symm))
  have rX1 : u1.rangeAt X 0 xq := range_at rX (hblk X sX (fun e => n1X P1.m2 (.inr (.inl rfl)) e.symm))
  have sX1 := Nat.lt_of_lt_of_le sX hg.size
  have HO := HO.grow (Off.of_grown (F := P1.own) hg (fun k hk => by cases hk; exact .inr (.inl rfl))) GX.out
  have hS : (fun w' : World => w'.rangeAt P1.p 0 (netL P1 ⟨s.nodes, s.way ++ [⟨dt, x⟩], s.on, s.kn, s.past, s.th, s.sent, s.taken⟩ 0) ∧ w'.rangeAt Y 0 pq) u0 := ⟨cN, rY⟩
  refine hs_t 0 54 (?_) rfl (by kernel_rfl) (by kernel_rfl) (by kernel_rfl) (by rfl) ?_ hS rfl ?_
  rotate_left
  ·intro w' hw
   go_simp
   try with_reducible rfl
  simp only [nz]
  refine hs_t 1 55 (?_) rfl (by kernel_rfl) (by kernel_rfl) (by kernel_rfl) (by rfl) ?_ hS rfl ?_
  rotate_left
  ·intro w' hw
   go_simp
   try with_reducible rfl
  simp only [nz]
  refine hs_t 2 56 (?_) rfl (by kernel_rfl) (by kernel_rfl) (by kernel_rfl) (by rfl) ?_ hS rfl ?_
  rotate_left
  ·intro w' hw
   go_simp
   try with_reducible rfl
  simp only [nz]
  refine hs_t 3 57 (.map (some P1.m2)) rfl (by kernel_rfl) (by kernel_rfl) (by kernel_rfl) (by rfl) (fun w' hw => pl_one rfl rfl (hw.1 2 _ rfl) Tryz.underlying68 rfl) hS rfl ?_
  simp only [nz]
  refine hs_t 4 58 (.agg pq.toArray) rfl (by kernel_rfl) (by kernel_rfl) (by kernel_rfl) (by rfl) (fun w' hw => ex_mid rfl rfl hw.2 Tryz.underlying44 rfl iq) hS rfl ?_
  simp only [nz]
  refine hs_t 5 59 (unitV) rfl (by kernel_rfl) (by kernel_rfl) (by kernel_rfl) (by rfl) (fun w' hw => ex_build (parts := []) (vs := []) rfl rfl (buildUnit _)) hS rfl ?_
  simp only [nz]
  refine hs_store (i := 6) (w' := u1) rfl (by kernel_rfl) (by rfl) (ex_mapUp rfl rfl rfl rfl hrun) rfl ⟨cN1, rY1⟩ ?_
  refine hs_done (by kernel_rfl) ?_
  clear hS hrun hm hg hblk cN cN1 hN rX rY sX sY hkp rY1
  have ca := aadd_any P1.p 8 s.sent u1 (hN1.c 8 _ rfl) hN1.f8 s0 s1
  have HN2 := hN1.sentAt (s.sent + 1)
  have HO := HO.grow (Off.cell (P := P1) u1 8 (.int .i64 (s.sent + 1))) GX.out
  have rX2 : (u1.setCell ⟨P1.p, 8, none⟩ (.int .i64 (s.sent + 1))).rangeAt X 0 xq := range_at rX1 (Below.heap_setCell u1 ⟨P1.p, 8, none⟩ _ X (fun e => n1X _ (.inl rfl) e.symm))
  have sX2 : X < (u1.setCell ⟨P1.p, 8, none⟩ (.int .i64 (s.sent + 1))).heap.size := by simpa using sX1
  obtain ⟨u2, hu2⟩ : ∃ u, u1.setCell ⟨P1.p, 8, none⟩ (.int .i64 (s.sent + 1)) = u := ⟨_, rfl⟩
  rw [hu2] at HN2 HO rX2 sX2
  simp only [hu2] at ca
  clear hu2 hN1 rX1 sX1
  go_upto_region 13 with fail
  try simp only [Act.put]
  refine pl_begin ?_
  refine pl_t 60 (?_) (by rfl) ?_ rfl ?_
  rotate_left
  ·go_simp
   try with_reducible rfl
  simp only [nz]
  refine pl_t 61 (?_) (by rfl) ?_ rfl ?_
  rotate_left
  ·go_simp
   try with_reducible rfl
  simp only [nz]
  refine pl_t 62 (.pointer (some ⟨P1.p, 8, none⟩)) (by rfl) (by go_simp) rfl ?_
  simp only [nz]
  refine pl_call (d := some 63) (by rfl) (by go_simp; first | done | exact ⟨rfl, rfl⟩ | with_reducible rfl) rfl ?_
  refine (ca).mono ?_
  rintro _ wd ⟨rfl, hwd⟩
  refine ⟨_, rfl, ?_⟩
  simp only [nz]
  obtain rfl := hwd.symm
  refine pl_nil ?_
  clear ca
  have HN3 : NetAt u2.drew B (K + 1) P1 ⟨s.nodes, s.way ++ [⟨dt, x⟩], s.on ++ [⟨dt, x⟩], s.kn, s.past, s.th, s.sent + 1, s.taken⟩ 0 := HN2.on (Nat.le_refl _) (fun _ _ => rfl)
  have HO := HO.drew
  have rX3 : u2.drew.rangeAt X 0 xq := (World.rangeAt_drew _ _ _ _).2 rX2
  have sX3 : X < u2.drew.heap.size := sX2
  clear HN2 rX2 sX2
  go_upto_region 14 with fail
  refine hs_begin (S := fun w' : World => w'.rangeAt X 0 xq) 5 rfl (by kernel_rfl) ?_
  obtain ⟨u3, hu3⟩ : ∃ u, u2.drew = u := ⟨_, rfl⟩
  rw [hu3] at HN3 HO rX3 sX3 ⊢
  clear hu3
  have hS : (fun w' : World => w'.rangeAt X 0 xq) u3 := rX3
  have HG9 := hide HO.size
  have ch := hadd_no B (K + 1) P1 ⟨s.nodes, s.way ++ [⟨dt, x⟩], s.on ++ [⟨dt, x⟩], s.kn, s.past, s.th, s.sent + 1, s.taken⟩ x u3 HN3 hx hi (by omega) hpn
  rw [hxq.out] at ch
  refine hs_t 0 64 (?_) rfl (by kernel_rfl) (by kernel_rfl) (by kernel_rfl) (by rfl) ?_ hS rfl ?_
  rotate_left
  ·intro w' hw
   go_simp
   try with_reducible rfl
  simp only [nz]
  refine hs_t 1 65 (?_) rfl (by kernel_rfl) (by kernel_rfl) (by kernel_rfl) (by rfl) ?_ hS rfl ?_
  rotate_left
  ·intro w' hw
   go_simp
   try with_reducible rfl
  simp only [nz]
  refine hs_t 2 66 (.pointer (some ⟨P1.p, 4, none⟩)) rfl (by kernel_rfl) (by kernel_rfl) (by kernel_rfl) (by rfl) (fun w' hw => by go_simp) hS rfl ?_
  simp only [nz]
  refine hs_t 3 67 (.agg xq.toArray) rfl (by kernel_rfl) (by kernel_rfl) (by kernel_rfl) (by rfl) (fun w' hw => ex_mid rfl rfl hw Tryz.underlying32 rfl ix) hS rfl ?_
  simp only [nz]
  refine hs_call (i := 4) (d := some 68) rfl (by kernel_rfl) (by rfl) (by go_simp; first | done | exact ⟨rfl, rfl⟩ | with_reducible rfl) rfl ?_
  refine ch.mono ?_
  rintro _ u4 ⟨rfl, hO4, v6, hN4, hg4⟩
  refine ⟨_, rfl, range_at rX3 (hO4.2 X sX3 (fun q => n1X X q rfl)), ?_⟩
  simp only [nz]
  refine hs_done (by kernel_rfl) ?_
  have rX4 : u4.rangeAt X 0 xq := range_at rX3 (hO4.2 X sX3 (fun q => n1X X q rfl))
  have sX4 := Nat.lt_of_lt_of_le sX3 hO4.size
  have HO := HO.grow hO4 GX.out
  have zz : w.heap.size ≤ u3.heap.size := by have := HG9.out; exact this
  have GX := hide (fun b (hb : Nd.own ⟨P1.p, P1.v1, v6, P1.m2, P1.m3, P1.m7⟩ b) => by
   rcases own_v6 (n := u3.heap.size) hg4 b hb with q | q
   ·exact GX.out b q
   ·exact .inr (Nat.le_trans zz q))
  have cl0 := nlearn_any B (K + 1 + 1) ⟨P1.p, P1.v1, v6, P1.m2, P1.m3, P1.m7⟩ ⟨s.nodes, s.way ++ [⟨dt, x⟩], s.on ++ [⟨dt, x⟩], s.kn, s.past ++ [x], s.th ++ [x], s.sent + 1, s.taken⟩ 0 x u4 hN4 hn hx hxs (by show K + 1 + 1 + 1 + (claimsC s.nodes x.s).length ≤ 1000000000; omega)
  rw [hxq.out] at cl0
  simp only at cl0
  clear hN4 hO4 HN3 rX3 sX3 ch hS n1X n1Y hg4 zz
  go_upto_region 15 with fail
  try simp only [Act.put]
  refine pl_begin ?_
  refine pl_t 69 (?_) (by rfl) ?_ rfl ?_
  rotate_left
  ·go_simp
   try with_reducible rfl
  simp only [nz]
  refine pl_t 70 (.agg xq.toArray) (by rfl) (ex_mid rfl rfl rX4 Tryz.underlying32 rfl ix) rfl ?_
  simp only [nz]
  refine pl_call (d := some 71) (by rfl) (by go_simp; first | done | exact ⟨rfl, rfl⟩ | with_reducible rfl) rfl ?_
  refine (cl0).mono ?_
  rintro _ u5 ⟨rfl, hN5, hO5⟩
  refine ⟨_, rfl, ?_⟩
  simp only [nz]
  refine pl_nil ?_
  have hN5 : NetAt u5 B (K + 1 + 1 + 1 + (claimsC s.nodes x.s).length) ⟨P1.p, P1.v1, v6, P1.m2, P1.m3, P1.m7⟩ ⟨s.nodes, s.way ++ [⟨dt, x⟩], s.on ++ [⟨dt, x⟩], s.kn ++ x :: claimsC s.nodes x.s, s.past ++ [x], s.th ++ [x], s.sent + 1, s.taken⟩ 0 := by
   have e : s.kn ++ [x] ++ claimsC s.nodes x.s = s.kn ++ x :: claimsC s.nodes x.s := by simp
   rw [← e]; exact hN5
  have HF := hide hN5
  have HO6 : Off P.own w u5 := HO.trans hO5 (fun b hb q => (GX.out b (.inr (.inr (.inl q)))).resolve_right (by omega))
  have HG := hide HO6
  clear HO6 hN5 hO5 HO cl0 rX4 sX4
  go_wp2_with fail
  go_ret
  exact ⟨rfl, HG.out, ⟨P1.p, P1.v1, v6, P1.m2, P1.m3, P1.m7⟩, PH.out, HF.out, GX.out⟩
def bB : ByteArray := ⟨#[98]⟩
def x0 : Ev := ⟨3, bB, List.replicate 16 0⟩
theorem x0_ok : x0.ok := ⟨rfl, by decide, by decide, by decide, by decide⟩
theorem cl_b : claimsC 4 bB = [] := by
 have h : (decS (strL bB)).2 = 11 := by kernel_rfl
 unfold claimsC
 rw [if_neg (by decide), h, if_pos (by decide)]
theorem build_x0 (w : World) : (Instr.build 32 #[(0, .int .i64 3), (1, .string ⟨#[98]⟩)]).run Tryz.prog w = .ok (.agg x0.cells.toArray) w := by kernel_rfl
theorem build_c0 (w : World) : (Instr.build 36 #[(0, .int .i64 3), (1, .string ⟨#[98]⟩)]).run Tryz.prog w = .ok (.agg x0.cells.toArray) w := by kernel_rfl
theorem zeroEv0 (w : World) : (zeroValue 32).run Tryz.prog w = .ok (.agg ([Value.int .i64 0, .string ⟨#[]⟩] ++ v8 (List.replicate 16 0)).toArray) w := by kernel_rfl
def p1 : Pk := ⟨1, x0⟩
def p2 : Pk := ⟨2, x0⟩
theorem send1 (B : Nat) (P : Nd) (w : World) (h : NetAt w B 0 P ⟨4, [], [], [], [], [], 0, 0⟩ 0) : Calls Tryz.prog 13 #[.pointer (some ⟨P.p, 0, none⟩), .int .i64 1, .agg x0.cells.toArray] w fun e w' => e = .returned (.int .i64 0) ∧ Off P.own w w' ∧ ∃ P' : Nd, P'.p = P.p ∧ NetAt w' B 3 P' ⟨4, [p1], [p1], [x0], [x0], [x0], 1, 0⟩ 0 ∧ ∀ b, P'.own b → P.own b ∨ w.heap.size ≤ b := by
 have hb : claimsC (Nt.nodes ⟨4, [], [], [], [], [], 0, 0⟩) x0.s = [] := cl_b
 have := nsend_new B 0 P ⟨4, [], [], [], [], [], 0, 0⟩ 1 x0 w h (by decide) x0_ok (by decide) (by decide) ⟨by decide, by decide, x0_ok⟩ (by simp) (by simp) (by decide) (by rw [hb]; decide) (by decide) (by decide) (by decide) (by decide)
 rw [hb] at this
 exact this
theorem send2 (B : Nat) (P : Nd) (w : World) (h : NetAt w B 3 P ⟨4, [p1], [p1], [x0], [x0], [x0], 1, 0⟩ 0) : Calls Tryz.prog 13 #[.pointer (some ⟨P.p, 0, none⟩), .int .i64 1, .agg x0.cells.toArray] w fun e w' => e = .returned (.int .i64 0) ∧ NetAt w' B 3 P ⟨4, [p1], [p1], [x0], [x0], [x0], 1, 0⟩ 0 ∧ Off P.own w w' :=
 nsend_dup B 3 P ⟨4, [p1], [p1], [x0], [x0], [x0], 1, 0⟩ 1 x0 w h (by decide) x0_ok (by decide) (by decide) ⟨by decide, by decide, x0_ok⟩ (List.mem_singleton.2 rfl)
theorem send3 (B : Nat) (P : Nd) (w : World) (h : NetAt w B 3 P ⟨4, [p1], [p1], [x0], [x0], [x0], 1, 0⟩ 0) : Calls Tryz.prog 13 #[.pointer (some ⟨P.p, 0, none⟩), .int .i64 2, .agg x0.cells.toArray] w fun e w' => e = .returned (.int .i64 0) ∧ Off P.own w w' ∧ ∃ P' : Nd, P'.p = P.p ∧ NetAt w' B 4 P' ⟨4, [p1, p2], [p1, p2], [x0], [x0], [x0], 2, 0⟩ 0 ∧ ∀ b, P'.own b → P.own b ∨ w.heap.size ≤ b :=
 nsend_old B 3 P ⟨4, [p1], [p1], [x0], [x0], [x0], 1, 0⟩ 2 x0 w h (by decide) x0_ok (by decide) (by decide) ⟨by decide, by decide, x0_ok⟩ (fun q => by have := congrArg Pk.dt (List.mem_singleton.1 q); simp [p1] at this) (List.mem_singleton.2 rfl) (by decide) (by decide) (by decide) (by decide)
theorem Off.low {P : Nd} {w w' : World} {n : Nat} (h : Off P.own w w') (hn : n ≤ w.heap.size) (hg : ∀ b, P.own b → n ≤ b) : Below n w w' := h.below hn fun b hb q => by have := hg b q; omega
set_option maxRecDepth 100000 in
set_option maxHeartbeats 8000000 in
theorem lives26_any (w : World) : Calls Tryz.prog 10 #[] w fun e w' => e = .returned (.bool true) ∧ Below w.heap.size w w' := by
 obtain ⟨ez, hez, hel⟩ : ∃ z : List Value, (∀ w : World, (zeroValue 32).run Tryz.prog w = .ok (.agg z.toArray) w) ∧ z.length = 18 := ⟨_, zeroEv0, rfl⟩
 have cN := nnew_any 4 w good4
 have c1 := fun P W h => send1 w.heap.size P W h
 have c2 := fun P W h => send2 w.heap.size P W h
 have c3 := fun P W h => send3 w.heap.size P W h
 have cL := fun P W h => nlen_any w.heap.size 4 P ⟨4, [p1, p2], [p1, p2], [x0], [x0], [x0], 2, 0⟩ 0 W h (by decide)
 have cS := fun P W h => nsent_any w.heap.size 4 P ⟨4, [p1, p2], [p1, p2], [x0], [x0], [x0], 2, 0⟩ W h (by decide)
 have cK := fun P W h => nknows_any w.heap.size 4 P ⟨4, [p1, p2], [p1, p2], [x0], [x0], [x0], 2, 0⟩ 0 x0 W h (by decide) x0_ok true ⟨fun _ => List.mem_singleton.2 rfl, fun _ => rfl⟩
 have hbx := build_x0
 have hbc := build_c0
 have hxl : x0.cells.length = 18 := EvE.len x0 x0_ok
 have hx1 : ∀ v ∈ x0.cells, v.oneCell' = true := EvE.one x0
 obtain ⟨xq, hxq⟩ : ∃ q, Hid (x0.cells = q) := ⟨_, hide rfl⟩
 simp only [hxq.out] at c1 c2 c3 cK hbx hbc hxl hx1
 have ix : (Tryz.prog.info? 32).map (·.size) = some xq.length := by rw [hxl]; exact isz_en
 clear hxq
 go_enter Tryz.func10, Tryz.ntmps10
 go_upto_region 1 with fail
 try simp only [Act.put]
 refine pl_begin ?_
 refine pl_call (d := some 3) (by rfl) (by go_simp; first | done | exact ⟨rfl, rfl⟩ | with_reducible rfl) rfl ?_
 refine (cN).mono ?_
 rintro _ w1 ⟨P, rfl, hN1, hb1⟩
 refine ⟨_, rfl, ?_⟩
 simp only [nz]
 refine pl_t 1 (?_) (by rfl) ?_ rfl ?_
 rotate_left
 ·go_simp
  try with_reducible rfl
 simp only [nz]
 refine pl_nil ?_
 clear cN
 go_upto_region 2 with fail
 try simp only [Act.put]
 refine pl_begin ?_
 refine pl_t 4 (.agg xq.toArray) (by rfl) (ex_build (parts := [(0, .const (.int .i64 3)), (1, .const (.string ⟨#[98]⟩))]) (vs := [(0, .int .i64 3), (1, .string ⟨#[98]⟩)]) rfl (by first | with_reducible rfl | rfl | simp [Act.eval]) (hbx _)) rfl ?_
 simp only [nz]
 refine pl_run (d := some 2) (v := .pointer (some ⟨w1.heap.size, 0, none⟩)) (w' := w1.alloc (.cells ez.toArray 32)) (by rfl) (ex_alloc rfl (hez _)) rfl ?_
 simp only [nz]
 refine pl_store (w' := (w1.alloc (.cells ez.toArray 32)).setCells w1.heap.size 0 xq) (by rfl) (ex_put (cs := xq.toArray) rfl rfl rfl (there_newN _ _ _ (by simp [hel, hxl])) (by simpa using ix) (all_one hx1)) rfl ?_
 refine pl_nil ?_
 obtain ⟨rX, hF, hF3, -⟩ := fresh_store w1 ez.toArray 32 xq (by simp [hel, hxl])
 have hN2 := hN1.below hF
 have hB := hb1.trans (hF.mono hb1.size)
 have nX : ∀ b, P.own b → b ≠ w1.heap.size := fun b hb e => by have := hN1.own_lt hb; omega
 have sX : w1.heap.size < ((w1.alloc (.cells ez.toArray 32)).setCells w1.heap.size 0 xq).heap.size := by omega
 obtain ⟨X, hX⟩ : ∃ X, w1.heap.size = X := ⟨_, rfl⟩
 rw [hX] at rX hN2 hB nX sX
 simp only [hX]
 obtain ⟨w2, hw2⟩ : ∃ W, (w1.alloc (.cells ez.toArray 32)).setCells X 0 xq = W := ⟨_, rfl⟩
 rw [hw2] at rX hN2 hB sX ⊢
 have HB := hide hB
 have HX := hide nX
 clear hw2 hX hF hF3 hN1 hb1 hB nX hbx hez
 have c1 := c1 P w2 hN2
 have HG0 := hide fun b (hb : P.own b) => hN2.own_ge hb
 go_upto_region 3 with fail
 try simp only [Act.put]
 refine pl_begin ?_
 refine pl_t 5 (?_) (by rfl) ?_ rfl ?_
 rotate_left
 ·go_simp
  try with_reducible rfl
 simp only [nz]
 refine pl_t 6 (.bool true) (by rfl) (by go_simp) rfl ?_
 simp only [nz]
 refine pl_t 7 (?_) (by rfl) ?_ rfl ?_
 rotate_left
 ·go_simp
  try with_reducible rfl
 simp only [nz]
 refine pl_t 8 (?_) (by rfl) ?_ rfl ?_
 rotate_left
 ·go_simp
  try with_reducible rfl
 simp only [nz]
 refine pl_t 9 (.agg xq.toArray) (by rfl) (ex_mid rfl rfl rX Tryz.underlying32 rfl ix) rfl ?_
 simp only [nz]
 refine pl_call (d := some 10) (by rfl) (by go_simp; first | done | exact ⟨rfl, rfl⟩ | with_reducible rfl) rfl ?_
 refine (c1).mono ?_
 rintro _ w3 ⟨rfl, hO3, P1, q1, hN3, hG3⟩
 refine ⟨_, rfl, ?_⟩
 simp only [nz]
 have rX3 : w3.rangeAt X 0 xq := range_at rX (hO3.2 X sX (fun q => HX.out X q rfl))
 have n3 : ∀ b, P1.own b → b ≠ X := fun b hb => by
  rcases hG3 b hb with q | q
  ·exact HX.out b q
  ·omega
 have HB := hide (HB.out.trans (hO3.low HB.out.size HG0.out))
 have sX3 := Nat.lt_of_lt_of_le sX hO3.size
 have HX := hide n3
 have HG0 := hide fun b (hb : P1.own b) => hN3.own_ge hb
 rw [← q1]
 have c2 := c2 P1 w3 hN3
 have Q1 := hide q1
 clear hO3 hG3 n3 rX sX q1 hN2 c1
 refine pl_t 11 (.bool true) (by rfl) (by go_simp) rfl ?_
 simp only [nz]
 refine pl_t 12 (?_) (by rfl) ?_ rfl ?_
 rotate_left
 ·go_simp
  try with_reducible rfl
 simp only [nz]
 refine pl_t 13 (?_) (by rfl) ?_ rfl ?_
 rotate_left
 ·go_simp
  try with_reducible rfl
 simp only [nz]
 refine pl_t 14 (?_) (by rfl) ?_ rfl ?_
 rotate_left
 ·go_simp
  try with_reducible rfl
 simp only [nz]
 refine pl_t 15 (.agg xq.toArray) (by rfl) (ex_mid rfl rfl rX3 Tryz.underlying32 rfl ix) rfl ?_
 simp only [nz]
 refine pl_call (d := some 16) (by rfl) (by go_simp; first | done | exact ⟨rfl, rfl⟩ | with_reducible rfl) rfl ?_
 refine (c2).mono ?_
 rintro _ w4 ⟨rfl, hN4, hO4⟩
 refine ⟨_, rfl, ?_⟩
 simp only [nz]
 have rX4 : w4.rangeAt X 0 xq := range_at rX3 (hO4.2 X sX3 (fun q => HX.out X q rfl))
 have HB := hide (HB.out.trans (hO4.low HB.out.size HG0.out))
 have sX4 := Nat.lt_of_lt_of_le sX3 hO4.size
 have c3 := c3 P1 w4 hN4
 clear hO4 rX3 sX3 hN3 c2
 refine pl_t 17 (.bool true) (by rfl) (by go_simp) rfl ?_
 simp only [nz]
 refine pl_t 18 (?_) (by rfl) ?_ rfl ?_
 rotate_left
 ·go_simp
  try with_reducible rfl
 simp only [nz]
 refine pl_t 19 (?_) (by rfl) ?_ rfl ?_
 rotate_left
 ·go_simp
  try with_reducible rfl
 simp only [nz]
 refine pl_t 20 (?_) (by rfl) ?_ rfl ?_
 rotate_left
 ·go_simp
  try with_reducible rfl
 simp only [nz]
 refine pl_t 21 (.agg xq.toArray) (by rfl) (ex_mid rfl rfl rX4 Tryz.underlying32 rfl ix) rfl ?_
 simp only [nz]
 refine pl_call (d := some 22) (by rfl) (by go_simp; first | done | exact ⟨rfl, rfl⟩ | with_reducible rfl) rfl ?_
 refine (c3).mono ?_
 rintro _ w5 ⟨rfl, hO5, P2, q2, hN5, hG5⟩
 refine ⟨_, rfl, ?_⟩
 simp only [nz]
 have HB := hide (HB.out.trans (hO5.low HB.out.size HG0.out))
 have HG0 := hide fun b (hb : P2.own b) => hN5.own_ge hb
 rw [← q2]
 have Q2 := hide q2
 have cL := cL P2 w5 hN5
 have cS := cS P2 w5 hN5
 clear hO5 hG5 rX4 sX4 hN4 q2 c3 HX
 refine pl_t 23 (.bool true) (by rfl) (by go_simp) rfl ?_
 simp only [nz]
 refine pl_t 24 (?_) (by rfl) ?_ rfl ?_
 rotate_left
 ·go_simp
  try with_reducible rfl
 simp only [nz]
 refine pl_t 25 (?_) (by rfl) ?_ rfl ?_
 rotate_left
 ·go_simp
  try with_reducible rfl
 simp only [nz]
 refine pl_t 26 (?_) (by rfl) ?_ rfl ?_
 rotate_left
 ·go_simp
  try with_reducible rfl
 simp only [nz]
 refine pl_call (d := some 27) (by rfl) (by go_simp; first | done | exact ⟨rfl, rfl⟩ | with_reducible rfl) rfl ?_
 refine (cL).mono ?_
 rintro _ wd ⟨rfl, hwd⟩
 refine ⟨_, rfl, ?_⟩
 simp only [nz]
 obtain rfl := hwd.symm
 clear cL
 refine pl_t 28 (.bool true) (by rfl) (by go_simp <;> (try simp)) rfl ?_
 simp only [nz]
 refine pl_t 29 (?_) (by rfl) ?_ rfl ?_
 rotate_left
 ·go_simp
  try with_reducible rfl
 simp only [nz]
 refine pl_t 30 (?_) (by rfl) ?_ rfl ?_
 rotate_left
 ·go_simp
  try with_reducible rfl
 simp only [nz]
 refine pl_t 31 (?_) (by rfl) ?_ rfl ?_
 rotate_left
 ·go_simp
  try with_reducible rfl
 simp only [nz]
 refine pl_call (d := some 32) (by rfl) (by go_simp; first | done | exact ⟨rfl, rfl⟩ | with_reducible rfl) rfl ?_
 refine (cS).mono ?_
 rintro _ w6 ⟨rfl, hN6, hO6⟩
 refine ⟨_, rfl, ?_⟩
 simp only [nz]
 have HB := hide (HB.out.trans (hO6.low HB.out.size HG0.out))
 have cK := cK P2 w6 hN6
 clear cS hO6 hN5
 refine pl_t 33 (.bool true) (by rfl) (by go_simp <;> (try simp)) rfl ?_
 simp only [nz]
 refine pl_t 34 (?_) (by rfl) ?_ rfl ?_
 rotate_left
 ·go_simp
  try with_reducible rfl
 simp only [nz]
 refine pl_t 35 (?_) (by rfl) ?_ rfl ?_
 rotate_left
 ·go_simp
  try with_reducible rfl
 simp only [nz]
 refine pl_t 36 (?_) (by rfl) ?_ rfl ?_
 rotate_left
 ·go_simp
  try with_reducible rfl
 simp only [nz]
 refine pl_t 37 (.agg xq.toArray) (by rfl) (ex_build (parts := [(0, .const (.int .i64 3)), (1, .const (.string ⟨#[98]⟩))]) (vs := [(0, .int .i64 3), (1, .string ⟨#[98]⟩)]) rfl (by first | with_reducible rfl | rfl | simp [Act.eval]) (hbc _)) rfl ?_
 simp only [nz]
 refine pl_call (d := some 38) (by rfl) (by go_simp; first | done | exact ⟨rfl, rfl⟩ | with_reducible rfl) rfl ?_
 refine (cK).mono ?_
 rintro _ w7 ⟨rfl, hb7⟩
 refine ⟨_, rfl, ?_⟩
 simp only [nz]
 refine pl_t 39 (?_) (by rfl) ?_ rfl ?_
 rotate_left
 ·go_simp
  try with_reducible rfl
 simp only [nz]
 refine pl_t 0 (?_) (by rfl) ?_ rfl ?_
 rotate_left
 ·go_simp
  try with_reducible rfl
 simp only [nz]
 refine pl_nil ?_
 have HF := hide (HB.out.trans (hb7.mono HB.out.size))
 clear hb7 hN6 HB cK hbc
 go_wp2_with fail
 go_ret
 exact ⟨rfl, HF.out⟩
open Go.ChangeShapes Go.WideShapes Go.ChangeAt Go.RowKit
theorem own : ownKnob Tryz.prog.godebug = none := by kernel_rfl
theorem wf64 {z : Int} (h : (Lit.int .i64 z).wf = true) : -9223372036854775808 ≤ z ∧ z ≤ 9223372036854775807 := by
 simp only [Lit.wf, Bool.and_eq_true, decide_eq_true_eq] at h
 exact h
theorem some_at {α : Type} {xs : List α} {n i : Nat} (hl : xs.length = n) (hi : i < n) : ∃ y, xs[i]? = some y := ⟨xs[i]'(by omega), List.getElem?_eq_getElem (by omega)⟩
theorem drop_one {α : Type} {l : List α} {o : Nat} {v : α} (h : (l.drop o).take 1 = [v]) : l[o]? = some v := by
 have := congrArg (·[0]?) h
 simpa [List.getElem?_take, List.getElem?_drop] using this
section
variable {H : Type} {enc : TypeId × Value → H} {W : World} {b : Nat} {sp : Nat → Bool} {held : Bool} {m : Nat}
theorem bytes_at {t n : Nat} {l : List Value} {y : DataW H × List MemPlace} (hu : Tryz.prog.underlying t = some (.array n 5)) (hct : Tryz.prog.cellsOf t = n) (h : DataW.trod enc Tryz.prog W b sp held m t l = some y) : ∃ zs : List Int, l = v8 zs ∧ zs.length = n ∧ ∀ z ∈ zs, 0 ≤ z ∧ z < 256 := by
  have hce : Tryz.prog.cellsOf 5 = 1 := by kernel_rfl
  cases m with
  | zero => simp [DataW.trod] at h
  | succ m =>
    simp only [DataW.trod, hu, hce, hct, Nat.mul_one] at h
    split at h
    · rename_i hsz
      obtain ⟨xs, hm, hx⟩ := Option.map_eq_some_iff.1 h
      have key : ∀ i, i < n → ∃ z, l[i]? = some (.int .u8 z) ∧ 0 ≤ z ∧ z < 256 := fun i hi => by
        obtain ⟨y, hy, hf⟩ := Lib.mapM_at hm i i (by simp [hi])
        obtain ⟨z, hc, rfl, hw⟩ := DataW.trod_int Tryz.underlying5 hf
        refine ⟨z, drop_one hc, ?_⟩
        simp [Lit.wf, IntKind.min, IntKind.max, IntKind.signed, IntKind.bits] at hw
        omega
      have hln : l.length = n := by simpa using hsz
      refine ⟨l.map (fun v => match v with | .int _ z => z | _ => 0), ?_, by simpa using hln, ?_⟩
      · apply List.ext_getElem?
        intro i
        by_cases hi : i < n
        · obtain ⟨z, hz, _⟩ := key i hi
          simp only [v8, List.map_map, List.getElem?_map, hz, Option.map_some]
          rfl
        · rw [List.getElem?_eq_none (by omega), List.getElem?_eq_none (by simp [v8]; omega)]
      · intro z hz
        obtain ⟨u, hu, rfl⟩ := List.mem_map.1 hz
        obtain ⟨i, hi, rfl⟩ := List.mem_iff_getElem.1 hu
        obtain ⟨z, hz, hb⟩ := key i (by omega)
        rw [List.getElem?_eq_getElem hi] at hz
        rw [Option.some.inj hz]
        exact hb
    · cases h
end
theorem take_cut {α : Type} (l : List α) (o n k : Nat) : (l.drop o).take (n + k) = (l.drop o).take n ++ (l.drop (o + n)).take k := by
 rw [List.take_add, List.drop_drop]
theorem take_whole {α : Type} {l : List α} {n : Nat} (h : l.length = n) : l = (l.drop 0).take n := by
 rw [List.drop_zero, List.take_of_length_le (by omega)]
set_option maxRecDepth 100000 in
theorem env_of {H : Type} {enc : TypeId × Value → H} {W : World} {b : Nat} {sp : Nat → Bool} {held : Bool} {fuel : Nat} {l : List Value} {x : DataW H × List MemPlace}
  (h : DataW.trod enc Tryz.prog W b sp held fuel 32 l = some x) : ∃ r : Ev, l = EvE.f r ∧ EvE.ok r := by
 have hct : Tryz.prog.cellsOf 32 = 18 := by kernel_rfl
 obtain ⟨xs, m, _, rfl, hcl, hl, hf⟩ := DataW.trod_struct Tryz.underlying32 h
 rw [hct] at hcl
 have hl : xs.length = 3 := hl
 have h0 : DataW.trod enc Tryz.prog W b sp held m 3 ((l.drop 0).take (Tryz.prog.cellsOf 3)) = xs[0]? := hf 0 _ rfl
 rw [show Tryz.prog.cellsOf 3 = 1 by kernel_rfl] at h0
 obtain ⟨y0, e0⟩ := some_at hl (show 0 < 3 by omega)
 obtain ⟨z0, g0, _, wz0⟩ := DataW.trod_int Tryz.underlying3 (h0.trans e0)
 have bz0 := wf64 wz0
 have h1 : DataW.trod enc Tryz.prog W b sp held m 9 ((l.drop 1).take (Tryz.prog.cellsOf 9)) = xs[1]? := hf 1 _ rfl
 rw [show Tryz.prog.cellsOf 9 = 1 by kernel_rfl] at h1
 obtain ⟨y1, e1⟩ := some_at hl (show 1 < 3 by omega)
 obtain ⟨z1, g1, _, bz1⟩ := DataW.trod_string Tryz.underlying9 (h1.trans e1)
 have h2 : DataW.trod enc Tryz.prog W b sp held m 30 ((l.drop 2).take (Tryz.prog.cellsOf 30)) = xs[2]? := hf 2 _ rfl
 rw [show Tryz.prog.cellsOf 30 = 16 by kernel_rfl] at h2
 obtain ⟨y2, e2⟩ := some_at hl (show 2 < 3 by omega)
 obtain ⟨z2, g2, lz2, bz2⟩ := bytes_at Tryz.underlying30 (by kernel_rfl) (h2.trans e2)
 refine ⟨⟨z0, z1, z2⟩, ?_, ⟨lz2, bz2, bz1, bz0.1, bz0.2⟩⟩
 have e := take_whole (n := 1 + (1 + (16))) hcl
 rw [take_cut, take_cut, g0, g1, g2] at e
 first | exact e | (rw [e]; rfl) | (rw [e]; simp)
structure Ac where
 k : Int
 dt : Int
 x : Ev
def Ac.cells (a : Ac) : List Value := .int .i64 a.k :: .int .i64 a.dt :: a.x.cells
structure Ac.ok (a : Ac) : Prop where
 x : a.x.ok
 tl : -9223372036854775808 ≤ a.dt
 th : a.dt ≤ 9223372036854775807
 kl : -9223372036854775808 ≤ a.k
 kh : a.k ≤ 9223372036854775807
set_option maxRecDepth 100000 in
theorem act_of {H : Type} {enc : TypeId × Value → H} {W : World} {b : Nat} {sp : Nat → Bool} {held : Bool} {fuel : Nat} {l : List Value} {x : DataW H × List MemPlace}
  (h : DataW.trod enc Tryz.prog W b sp held fuel 34 l = some x) : ∃ r : Ac, l = r.cells ∧ r.ok := by
 have hct : Tryz.prog.cellsOf 34 = 20 := by kernel_rfl
 obtain ⟨xs, m, _, rfl, hcl, hl, hf⟩ := DataW.trod_struct Tryz.underlying34 h
 rw [hct] at hcl
 have hl : xs.length = 3 := hl
 have h0 : DataW.trod enc Tryz.prog W b sp held m 3 ((l.drop 0).take (Tryz.prog.cellsOf 3)) = xs[0]? := hf 0 _ rfl
 rw [show Tryz.prog.cellsOf 3 = 1 by kernel_rfl] at h0
 obtain ⟨y0, e0⟩ := some_at hl (show 0 < 3 by omega)
 obtain ⟨z0, g0, _, wz0⟩ := DataW.trod_int Tryz.underlying3 (h0.trans e0)
 have bz0 := wf64 wz0
 have h1 : DataW.trod enc Tryz.prog W b sp held m 3 ((l.drop 1).take (Tryz.prog.cellsOf 3)) = xs[1]? := hf 1 _ rfl
 rw [show Tryz.prog.cellsOf 3 = 1 by kernel_rfl] at h1
 obtain ⟨y1, e1⟩ := some_at hl (show 1 < 3 by omega)
 obtain ⟨z1, g1, _, wz1⟩ := DataW.trod_int Tryz.underlying3 (h1.trans e1)
 have bz1 := wf64 wz1
 have h2 : DataW.trod enc Tryz.prog W b sp held m 32 ((l.drop 2).take (Tryz.prog.cellsOf 32)) = xs[2]? := hf 2 _ rfl
 rw [show Tryz.prog.cellsOf 32 = 18 by kernel_rfl] at h2
 obtain ⟨y2, e2⟩ := some_at hl (show 2 < 3 by omega)
 obtain ⟨z2, g2, bz2⟩ := env_of (h2.trans e2)
 refine ⟨⟨z0, z1, z2⟩, ?_, ⟨bz2, bz1.1, bz1.2, bz0.1, bz0.2⟩⟩
 have e := take_whole (n := 1 + (1 + (18))) hcl
 rw [take_cut, take_cut, g0, g1, g2] at e
 first | exact e | (rw [e]; rfl) | (rw [e]; simp)
set_option maxRecDepth 100000 in
theorem claim_of {H : Type} {enc : TypeId × Value → H} {W : World} {b : Nat} {sp : Nat → Bool} {held : Bool} {fuel : Nat} {l : List Value} {x : DataW H × List MemPlace}
  (h : DataW.trod enc Tryz.prog W b sp held fuel 36 l = some x) : ∃ r : Ev, l = r.cells ∧ r.ok := by
 have hct : Tryz.prog.cellsOf 36 = 18 := by kernel_rfl
 obtain ⟨xs, m, _, rfl, hcl, hl, hf⟩ := DataW.trod_struct Tryz.underlying36 h
 rw [hct] at hcl
 have hl : xs.length = 3 := hl
 have h0 : DataW.trod enc Tryz.prog W b sp held m 3 ((l.drop 0).take (Tryz.prog.cellsOf 3)) = xs[0]? := hf 0 _ rfl
 rw [show Tryz.prog.cellsOf 3 = 1 by kernel_rfl] at h0
 obtain ⟨y0, e0⟩ := some_at hl (show 0 < 3 by omega)
 obtain ⟨z0, g0, _, wz0⟩ := DataW.trod_int Tryz.underlying3 (h0.trans e0)
 have bz0 := wf64 wz0
 have h1 : DataW.trod enc Tryz.prog W b sp held m 9 ((l.drop 1).take (Tryz.prog.cellsOf 9)) = xs[1]? := hf 1 _ rfl
 rw [show Tryz.prog.cellsOf 9 = 1 by kernel_rfl] at h1
 obtain ⟨y1, e1⟩ := some_at hl (show 1 < 3 by omega)
 obtain ⟨z1, g1, _, bz1⟩ := DataW.trod_string Tryz.underlying9 (h1.trans e1)
 have h2 : DataW.trod enc Tryz.prog W b sp held m 30 ((l.drop 2).take (Tryz.prog.cellsOf 30)) = xs[2]? := hf 2 _ rfl
 rw [show Tryz.prog.cellsOf 30 = 16 by kernel_rfl] at h2
 obtain ⟨y2, e2⟩ := some_at hl (show 2 < 3 by omega)
 obtain ⟨z2, g2, lz2, bz2⟩ := bytes_at Tryz.underlying30 (by kernel_rfl) (h2.trans e2)
 refine ⟨⟨z0, z1, z2⟩, ?_, ⟨lz2, bz2, bz1, bz0.1, bz0.2⟩⟩
 have e := take_whole (n := 1 + (1 + (16))) hcl
 rw [take_cut, take_cut, g0, g1, g2] at e
 first | exact e | (rw [e]; rfl) | (rw [e]; simp)
set_option maxRecDepth 100000 in
theorem open_claim {H : Type} {enc : TypeId × Value → H} {W : World} {base b : Nat} {sp : Nat → Bool} {held : Bool} {fuel : Nat} {v : Value} {x : DataW H × List MemPlace} (hv : Value.okWide Tryz.prog W .any base 36 v)
  (h : DataW.trod enc Tryz.prog W b sp held fuel 36 v.cells.toList = some x) : ∃ m : Ev, v = .agg m.cells.toArray ∧ m.ok := by
 unfold Value.okWide at hv
 rw [Tryz.underlying36] at hv
 obtain ⟨cs, rfl, hsz, _⟩ := hv
 obtain ⟨r, h1, h2⟩ := claim_of h
 refine ⟨r, ?_, h2⟩
 simp only [Value.cells] at h1
 have h1 : cs.toList = r.cells := h1
 rw [← h1]
end Go.Proofs.YtilbjeeabecfjaaGreat
namespace Go.Proofs.YtilbjeeabecfjaaGreat
open Go.RowKit
open Sha Tal
set_option linter.unusedVariables false
set_option linter.unusedSimpArgs false
def NoNet (p : Option Addr) (w : World) : Prop := ∀ w0, Below w.heap.size w w0 → Calls Tryz.prog 27 #[.pointer p] w0 fun e w' => e = .returned (.bool false) ∧ w' = w0
theorem NoNet.below {p : Option Addr} {w w1 : World} (h : NoNet p w) (hb : Below w.heap.size w w1) : NoNet p w1 := fun w0 hb0 => h w0 (hb.trans (hb0.mono hb.size))
theorem buildPk0 (w : World) : (Instr.build 44 #[]).run Tryz.prog w = .ok (.agg infoPk0.toArray) w := by kernel_rfl
theorem zeroClz (w : World) : (zeroValue 36).run Tryz.prog w = .ok (.agg infoEv0.toArray) w := by kernel_rfl
theorem pk0_len : infoPk0.length = 19 := rfl
theorem ev0_len : infoEv0.length = 18 := rfl
theorem pk0_one : ∀ v ∈ infoPk0, v.oneCell' = true := by decide
end Go.Proofs.YtilbjeeabecfjaaGreat
