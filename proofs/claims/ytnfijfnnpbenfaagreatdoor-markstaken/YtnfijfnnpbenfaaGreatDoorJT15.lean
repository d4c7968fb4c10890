/- MarksTaken -/
import Derived.Test.YtnfijfnnpbenfaaGreatDoorJT0
import Derived.Test.YtnfijfnnpbenfaaGreatDoorJT13
import Derived.Test.YtnfijfnnpbenfaaGreatDoorJT14
import Derived.Deep.DeepCutAuto
namespace Go.Proofs.YtnfijfnnpbenfaaGreatDoor
open Go.RowKit
open Sha Tal
set_option linter.unusedVariables false
set_option linter.unusedSimpArgs false
open Qs (KeysAt SigsAt qcheckV okS checkOf refSignOf signOf keysOf mostI seedR rkL addS runOf)
set_option maxRecDepth 100000 in
set_option maxHeartbeats 40000000 in
theorem marksTaken_walk (c : Ld.Cfg) (s : Stt) (ia : Option Addr) (icap : Nat) (zs : List Int) (at_ tu : Int) (w : World) (hG : Glob w) (so : s.ok) (sta : s.At w) (hz : Sl.At PnE w ⟨ia, icap, zs⟩) (htu0 : 0 ≤ tu) (htu1 : tu < 256) :
    Calls Tryz.prog 4 #[.agg (cfgL c).toArray, .agg s.cells.toArray, .slice ia zs.length icap, .int .i64 at_, .int .u8 tu] w fun e w' => e = .returned (.bool true) ∧ Below w.heap.size w w' := by
  obtain ⟨zc, hzl, hzr⟩ : ∃ z : List Value, z.length = 37 ∧ (∀ w : World, (zeroValue 36).run Tryz.prog w = .ok (.agg z.toArray) w) := ⟨_, Stt.len Stt.zero_ok, zeroS0⟩
  obtain ⟨zt, hztl, hztr⟩ : ∃ z : List Value, z.length = 16 ∧ (∀ w : World, (zeroValue 51).run Tryz.prog w = .ok (.agg z.toArray) w) := ⟨List.replicate 16 (.int .u8 0), rfl, fun w => by kernel_rfl⟩
  obtain ⟨zk, hzkl, hzkr⟩ : ∃ z : List Value, z.length = 2 ∧ (∀ w : World, (zeroValue 28).run Tryz.prog w = .ok (.agg z.toArray) w) := ⟨[.string ⟨#[]⟩, .int .i64 0], rfl, fun w => by kernel_rfl⟩
  have iu := iszCf c
  have hiq : (Tryz.prog.info? 36).map (·.size) = some s.cells.length := by rw [Stt.len so]; exact iszSt
  have cG : ∀ w0, s.At w0 → Calls Tryz.prog 10 #[.agg (cfgL c).toArray, .agg s.cells.toArray] w0 fun e w' => e = .returned (.bool (s.good c)) ∧ Below w0.heap.size w0 w' := fun w0 h0 => sgood_any c s w0 so h0
  have cB := fun w0 (h0 : s.At w0) => sbytes_any s w0 so h0
  have cD := fun w0 g (h0 : s.At w0) => sdigest_any s w0 g so h0
  have ck := fun w0 g => Qs.keys6_any w0 g
  have ik : (Tryz.prog.info? 28).map (·.size) = some rkL.length := by kernel_rfl
  have hkl2 : rkL.length = 2 := rfl
  have hk1 : ∀ v ∈ rkL, v.oneCell' = true := by decide
  have hcn : (cfgL c)[0]? = some (.int .i64 c.n) := rfl
  have hq0 : s.cells[0]? = some (.int .i64 s.e) := rfl
  obtain ⟨rc, rs, B, hsz⟩ := two_box2 (cfgL c) s.cells 23 36 w
  have hs1 : (w.alloc (.cells (cfgL c).toArray 23)).heap.size = w.heap.size + 1 := by simp
  have hpt := st_parts so rs
  have pw := hpt.ws
  have pp := hpt.ps
  clear hpt
  obtain ⟨⟨wa, wc, wx⟩, hws⟩ : ∃ y, s.ws = y := ⟨_, rfl⟩
  obtain ⟨⟨pa, pc, px⟩, hps⟩ : ∃ y, s.ps = y := ⟨_, rfl⟩
  rw [hws] at pw
  rw [hps] at pp
  simp only [Sl.val] at pw pp
  obtain ⟨wn, hwn⟩ : ∃ n, wx.length = n := ⟨_, rfl⟩
  obtain ⟨pn, hpn⟩ : ∃ n, px.length = n := ⟨_, rfl⟩
  obtain ⟨zn, hzn⟩ : ∃ n, zs.length = n := ⟨_, rfl⟩
  rw [hwn] at pw
  rw [hpn] at pp
  have HW : Hid (s.ws.xs.length = wn ∧ s.ps.xs.length = pn ∧ zs.length = zn) := hide ⟨by rw [hws]; exact hwn, by rw [hps]; exact hpn, hzn⟩
  obtain ⟨u, hu⟩ : ∃ u, Hid (cfgL c = u) := ⟨_, hide rfl⟩
  obtain ⟨q, hq⟩ : ∃ q, Hid (s.cells = q) := ⟨_, hide rfl⟩
  obtain ⟨se, hse⟩ : ∃ e, Hid (s.e = e) := ⟨_, hide rfl⟩
  rw [hu.out] at iu hcn rc rs B hsz hs1 pw pp
  rw [hq.out] at hiq hq0 rs B hsz rc pw pp
  rw [hse.out] at hq0
  simp only [hu.out, hq.out] at cG cB cD ⊢
  simp only [hzn]
  have hz := hz.below B
  have sta := sta.below B
  have HG := hide hG
  clear hG hws hps hwn hpn hzn
  go_enter Tryz.func4, Tryz.ntmps4
  go_upto_region 0 with fail
  try simp only [Act.put]
  refine pl_begin ?_
  refine pl_run (d := some 5) (v := .pointer (some ⟨w.heap.size, 0, none⟩)) (w' := w.alloc (.cells u.toArray 23)) (by rfl) (ex_boxR rfl rfl) rfl ?_
  simp only [nz]
  refine pl_run (d := some 6) (v := .pointer (some ⟨w.heap.size + 1, 0, none⟩)) (w' := (w.alloc (.cells u.toArray 23)).alloc (.cells q.toArray 36)) (by rfl) (by rw [← hs1]; exact ex_boxR rfl rfl) rfl ?_
  simp only [nz]
  refine pl_t 10 (?_) (by rfl) ?_ rfl ?_
  rotate_left
  · go_simp
    try with_reducible rfl
  simp only [nz]
  refine pl_nil ?_
  go_upto_region 1 with fail
  obtain ⟨W, hW⟩ : ∃ W, (w.alloc (.cells u.toArray 23)).alloc (.cells q.toArray 36) = W := ⟨_, rfl⟩
  rw [hW] at rc rs B hsz hz sta pw pp ⊢
  clear hW hs1
  obtain ⟨S, hS⟩ : ∃ S, w.heap.size + 1 = S := ⟨_, rfl⟩
  have ss : S < W.heap.size := by omega
  have sc : w.heap.size < W.heap.size := by omega
  rw [hS] at rs pw pp
  simp only [hS]
  clear hS hsz
  obtain ⟨C, hC⟩ : ∃ C, w.heap.size = C := ⟨_, rfl⟩
  rw [hC] at rc sc
  simp only [hC]
  clear hC
  by_cases k0 : wn ≤ 100
  rotate_left
  · have k0' : (100 : Int) < wn := by omega
    clear cG cB ck cD k0
    try simp only [Act.put]
    refine pl_begin ?_
    refine pl_t 27 (?_) (by rfl) ?_ rfl ?_
    rotate_left
    · go_simp
      try with_reducible rfl
    simp only [nz]
    refine pl_t 28 (.slice wa wn wc) (by rfl) (pl_one rfl rfl pw Tryz.underlying33 rfl) rfl ?_
    simp only [nz]
    refine pl_t 29 (.int .i64 (wn : Int)) (by rfl) (by go_simp) rfl ?_
    simp only [nz]
    refine pl_t 30 (.bool true) (by rfl) (by go_simp <;> (try simp [*])) rfl ?_
    simp only [nz]
    refine pl_t 31 (?_) (by rfl) ?_ rfl ?_
    rotate_left
    · go_simp
      try with_reducible rfl
    simp only [nz]
    refine pl_skip (d := some 32) (by rfl) rfl ?_
    simp only [nz]
    refine pl_skip (d := some 33) (by rfl) rfl ?_
    simp only [nz]
    refine pl_skip (d := some 34) (by rfl) rfl ?_
    simp only [nz]
    refine pl_skip (d := some 35) (by rfl) rfl ?_
    simp only [nz]
    refine pl_t 36 (?_) (by rfl) ?_ rfl ?_
    rotate_left
    · go_simp
      try with_reducible rfl
    simp only [nz]
    refine pl_t 37 (?_) (by rfl) ?_ rfl ?_
    rotate_left
    · go_simp
      try with_reducible rfl
    simp only [nz]
    refine pl_skip (d := some 38) (by rfl) rfl ?_
    simp only [nz]
    refine pl_skip (d := some 39) (by rfl) rfl ?_
    simp only [nz]
    refine pl_skip (d := some 40) (by rfl) rfl ?_
    simp only [nz]
    refine pl_t 41 (?_) (by rfl) ?_ rfl ?_
    rotate_left
    · go_simp
      try with_reducible rfl
    simp only [nz]
    refine pl_t 42 (?_) (by rfl) ?_ rfl ?_
    rotate_left
    · go_simp
      try with_reducible rfl
    simp only [nz]
    refine pl_skip (d := some 43) (by rfl) rfl ?_
    simp only [nz]
    refine pl_skip (d := some 44) (by rfl) rfl ?_
    simp only [nz]
    refine pl_skip (d := some 45) (by rfl) rfl ?_
    simp only [nz]
    refine pl_skip (d := some 46) (by rfl) rfl ?_
    simp only [nz]
    refine pl_t 47 (?_) (by rfl) ?_ rfl ?_
    rotate_left
    · go_simp
      try with_reducible rfl
    simp only [nz]
    refine pl_t 48 (?_) (by rfl) ?_ rfl ?_
    rotate_left
    · go_simp
      try with_reducible rfl
    simp only [nz]
    refine pl_skip (d := some 49) (by rfl) rfl ?_
    simp only [nz]
    refine pl_skip (d := some 50) (by rfl) rfl ?_
    simp only [nz]
    refine pl_skip (d := some 51) (by rfl) rfl ?_
    simp only [nz]
    refine pl_t 52 (?_) (by rfl) ?_ rfl ?_
    rotate_left
    · go_simp
      try with_reducible rfl
    simp only [nz]
    refine pl_nil ?_
    clear rc rs sta hz sc ss pw pp
    go_upto_region 2 with fail
    try simp only [Act.put]
    refine pl_begin ?_
    refine pl_call (d := some 53) (by rfl) (by go_simp; first | done | exact ⟨rfl, rfl⟩ | with_reducible rfl) rfl ?_
    refine (Mk.lives_any W).mono ?_
    rintro _ wL ⟨rfl, hbL⟩
    refine ⟨_, rfl, ?_⟩
    simp only [nz]
    refine pl_t 10 (?_) (by rfl) ?_ rfl ?_
    rotate_left
    · go_simp
      try with_reducible rfl
    simp only [nz]
    refine pl_nil ?_
    have HB := hide (B.trans (hbL.mono B.size))
    go_wp2_with fail
    go_ret
    exact ⟨rfl, HB.out⟩
  have k0' : ¬ ((100 : Int) < wn) := by omega
  by_cases k1 : pn ≤ 100
  rotate_left
  · have k1' : (100 : Int) < pn := by omega
    clear cG cB ck cD k1
    try simp only [Act.put]
    refine pl_begin ?_
    refine pl_t 27 (?_) (by rfl) ?_ rfl ?_
    rotate_left
    · go_simp
      try with_reducible rfl
    simp only [nz]
    refine pl_t 28 (.slice wa wn wc) (by rfl) (pl_one rfl rfl pw Tryz.underlying33 rfl) rfl ?_
    simp only [nz]
    refine pl_t 29 (.int .i64 (wn : Int)) (by rfl) (by go_simp) rfl ?_
    simp only [nz]
    refine pl_t 30 (.bool false) (by rfl) (by go_simp <;> (try simp [*])) rfl ?_
    simp only [nz]
    refine pl_t 31 (?_) (by rfl) ?_ rfl ?_
    rotate_left
    · go_simp
      try with_reducible rfl
    simp only [nz]
    refine pl_t 32 (?_) (by rfl) ?_ rfl ?_
    rotate_left
    · go_simp
      try with_reducible rfl
    simp only [nz]
    refine pl_t 33 (.slice pa pn pc) (by rfl) (pl_one rfl rfl pp Tryz.underlying34 rfl) rfl ?_
    simp only [nz]
    refine pl_t 34 (.int .i64 (pn : Int)) (by rfl) (by go_simp) rfl ?_
    simp only [nz]
    refine pl_t 35 (.bool true) (by rfl) (by go_simp <;> (try simp [*])) rfl ?_
    simp only [nz]
    refine pl_t 36 (?_) (by rfl) ?_ rfl ?_
    rotate_left
    · go_simp
      try with_reducible rfl
    simp only [nz]
    refine pl_t 37 (?_) (by rfl) ?_ rfl ?_
    rotate_left
    · go_simp
      try with_reducible rfl
    simp only [nz]
    refine pl_skip (d := some 38) (by rfl) rfl ?_
    simp only [nz]
    refine pl_skip (d := some 39) (by rfl) rfl ?_
    simp only [nz]
    refine pl_skip (d := some 40) (by rfl) rfl ?_
    simp only [nz]
    refine pl_t 41 (?_) (by rfl) ?_ rfl ?_
    rotate_left
    · go_simp
      try with_reducible rfl
    simp only [nz]
    refine pl_t 42 (?_) (by rfl) ?_ rfl ?_
    rotate_left
    · go_simp
      try with_reducible rfl
    simp only [nz]
    refine pl_skip (d := some 43) (by rfl) rfl ?_
    simp only [nz]
    refine pl_skip (d := some 44) (by rfl) rfl ?_
    simp only [nz]
    refine pl_skip (d := some 45) (by rfl) rfl ?_
    simp only [nz]
    refine pl_skip (d := some 46) (by rfl) rfl ?_
    simp only [nz]
    refine pl_t 47 (?_) (by rfl) ?_ rfl ?_
    rotate_left
    · go_simp
      try with_reducible rfl
    simp only [nz]
    refine pl_t 48 (?_) (by rfl) ?_ rfl ?_
    rotate_left
    · go_simp
      try with_reducible rfl
    simp only [nz]
    refine pl_skip (d := some 49) (by rfl) rfl ?_
    simp only [nz]
    refine pl_skip (d := some 50) (by rfl) rfl ?_
    simp only [nz]
    refine pl_skip (d := some 51) (by rfl) rfl ?_
    simp only [nz]
    refine pl_t 52 (?_) (by rfl) ?_ rfl ?_
    rotate_left
    · go_simp
      try with_reducible rfl
    simp only [nz]
    refine pl_nil ?_
    clear rc rs sta hz sc ss pw pp
    go_upto_region 2 with fail
    try simp only [Act.put]
    refine pl_begin ?_
    refine pl_call (d := some 53) (by rfl) (by go_simp; first | done | exact ⟨rfl, rfl⟩ | with_reducible rfl) rfl ?_
    refine (Mk.lives_any W).mono ?_
    rintro _ wL ⟨rfl, hbL⟩
    refine ⟨_, rfl, ?_⟩
    simp only [nz]
    refine pl_t 10 (?_) (by rfl) ?_ rfl ?_
    rotate_left
    · go_simp
      try with_reducible rfl
    simp only [nz]
    refine pl_nil ?_
    have HB := hide (B.trans (hbL.mono B.size))
    go_wp2_with fail
    go_ret
    exact ⟨rfl, HB.out⟩
  have k1' : ¬ ((100 : Int) < pn) := by omega
  by_cases k2 : zn ≤ 200
  rotate_left
  · have k2' : (200 : Int) < zn := by omega
    clear cG cB ck cD k2
    try simp only [Act.put]
    refine pl_begin ?_
    refine pl_t 27 (?_) (by rfl) ?_ rfl ?_
    rotate_left
    · go_simp
      try with_reducible rfl
    simp only [nz]
    refine pl_t 28 (.slice wa wn wc) (by rfl) (pl_one rfl rfl pw Tryz.underlying33 rfl) rfl ?_
    simp only [nz]
    refine pl_t 29 (.int .i64 (wn : Int)) (by rfl) (by go_simp) rfl ?_
    simp only [nz]
    refine pl_t 30 (.bool false) (by rfl) (by go_simp <;> (try simp [*])) rfl ?_
    simp only [nz]
    refine pl_t 31 (?_) (by rfl) ?_ rfl ?_
    rotate_left
    · go_simp
      try with_reducible rfl
    simp only [nz]
    refine pl_t 32 (?_) (by rfl) ?_ rfl ?_
    rotate_left
    · go_simp
      try with_reducible rfl
    simp only [nz]
    refine pl_t 33 (.slice pa pn pc) (by rfl) (pl_one rfl rfl pp Tryz.underlying34 rfl) rfl ?_
    simp only [nz]
    refine pl_t 34 (.int .i64 (pn : Int)) (by rfl) (by go_simp) rfl ?_
    simp only [nz]
    refine pl_t 35 (.bool false) (by rfl) (by go_simp <;> (try simp [*])) rfl ?_
    simp only [nz]
    refine pl_t 36 (?_) (by rfl) ?_ rfl ?_
    rotate_left
    · go_simp
      try with_reducible rfl
    simp only [nz]
    refine pl_t 37 (?_) (by rfl) ?_ rfl ?_
    rotate_left
    · go_simp
      try with_reducible rfl
    simp only [nz]
    refine pl_t 38 (?_) (by rfl) ?_ rfl ?_
    rotate_left
    · go_simp
      try with_reducible rfl
    simp only [nz]
    refine pl_t 39 (.int .i64 (zn : Int)) (by rfl) (by go_simp) rfl ?_
    simp only [nz]
    refine pl_t 40 (.bool true) (by rfl) (by go_simp <;> (try simp [*])) rfl ?_
    simp only [nz]
    refine pl_t 41 (?_) (by rfl) ?_ rfl ?_
    rotate_left
    · go_simp
      try with_reducible rfl
    simp only [nz]
    refine pl_t 42 (?_) (by rfl) ?_ rfl ?_
    rotate_left
    · go_simp
      try with_reducible rfl
    simp only [nz]
    refine pl_skip (d := some 43) (by rfl) rfl ?_
    simp only [nz]
    refine pl_skip (d := some 44) (by rfl) rfl ?_
    simp only [nz]
    refine pl_skip (d := some 45) (by rfl) rfl ?_
    simp only [nz]
    refine pl_skip (d := some 46) (by rfl) rfl ?_
    simp only [nz]
    refine pl_t 47 (?_) (by rfl) ?_ rfl ?_
    rotate_left
    · go_simp
      try with_reducible rfl
    simp only [nz]
    refine pl_t 48 (?_) (by rfl) ?_ rfl ?_
    rotate_left
    · go_simp
      try with_reducible rfl
    simp only [nz]
    refine pl_skip (d := some 49) (by rfl) rfl ?_
    simp only [nz]
    refine pl_skip (d := some 50) (by rfl) rfl ?_
    simp only [nz]
    refine pl_skip (d := some 51) (by rfl) rfl ?_
    simp only [nz]
    refine pl_t 52 (?_) (by rfl) ?_ rfl ?_
    rotate_left
    · go_simp
      try with_reducible rfl
    simp only [nz]
    refine pl_nil ?_
    clear rc rs sta hz sc ss pw pp
    go_upto_region 2 with fail
    try simp only [Act.put]
    refine pl_begin ?_
    refine pl_call (d := some 53) (by rfl) (by go_simp; first | done | exact ⟨rfl, rfl⟩ | with_reducible rfl) rfl ?_
    refine (Mk.lives_any W).mono ?_
    rintro _ wL ⟨rfl, hbL⟩
    refine ⟨_, rfl, ?_⟩
    simp only [nz]
    refine pl_t 10 (?_) (by rfl) ?_ rfl ?_
    rotate_left
    · go_simp
      try with_reducible rfl
    simp only [nz]
    refine pl_nil ?_
    have HB := hide (B.trans (hbL.mono B.size))
    go_wp2_with fail
    go_ret
    exact ⟨rfl, HB.out⟩
  have k2' : ¬ ((200 : Int) < zn) := by omega
  by_cases k3 : s.good c = true
  rotate_left
  · have k3' : s.good c = false := by simpa using k3
    simp only [k3'] at cG
    clear cB ck cD k3 k3'
    try simp only [Act.put]
    refine pl_begin ?_
    refine pl_t 27 (?_) (by rfl) ?_ rfl ?_
    rotate_left
    · go_simp
      try with_reducible rfl
    simp only [nz]
    refine pl_t 28 (.slice wa wn wc) (by rfl) (pl_one rfl rfl pw Tryz.underlying33 rfl) rfl ?_
    simp only [nz]
    refine pl_t 29 (.int .i64 (wn : Int)) (by rfl) (by go_simp) rfl ?_
    simp only [nz]
    refine pl_t 30 (.bool false) (by rfl) (by go_simp <;> (try simp [*])) rfl ?_
    simp only [nz]
    refine pl_t 31 (?_) (by rfl) ?_ rfl ?_
    rotate_left
    · go_simp
      try with_reducible rfl
    simp only [nz]
    refine pl_t 32 (?_) (by rfl) ?_ rfl ?_
    rotate_left
    · go_simp
      try with_reducible rfl
    simp only [nz]
    refine pl_t 33 (.slice pa pn pc) (by rfl) (pl_one rfl rfl pp Tryz.underlying34 rfl) rfl ?_
    simp only [nz]
    refine pl_t 34 (.int .i64 (pn : Int)) (by rfl) (by go_simp) rfl ?_
    simp only [nz]
    refine pl_t 35 (.bool false) (by rfl) (by go_simp <;> (try simp [*])) rfl ?_
    simp only [nz]
    refine pl_t 36 (?_) (by rfl) ?_ rfl ?_
    rotate_left
    · go_simp
      try with_reducible rfl
    simp only [nz]
    refine pl_t 37 (?_) (by rfl) ?_ rfl ?_
    rotate_left
    · go_simp
      try with_reducible rfl
    simp only [nz]
    refine pl_t 38 (?_) (by rfl) ?_ rfl ?_
    rotate_left
    · go_simp
      try with_reducible rfl
    simp only [nz]
    refine pl_t 39 (.int .i64 (zn : Int)) (by rfl) (by go_simp) rfl ?_
    simp only [nz]
    refine pl_t 40 (.bool false) (by rfl) (by go_simp <;> (try simp [*])) rfl ?_
    simp only [nz]
    refine pl_t 41 (?_) (by rfl) ?_ rfl ?_
    rotate_left
    · go_simp
      try with_reducible rfl
    simp only [nz]
    refine pl_t 42 (?_) (by rfl) ?_ rfl ?_
    rotate_left
    · go_simp
      try with_reducible rfl
    simp only [nz]
    refine pl_t 43 (.agg u.toArray) (by rfl) (ex_mid rfl rfl rc Tryz.underlying23 rfl iu) rfl ?_
    simp only [nz]
    refine pl_t 44 (.agg q.toArray) (by rfl) (ex_mid rfl rfl rs Tryz.underlying36 rfl hiq) rfl ?_
    simp only [nz]
    refine pl_call (d := some 45) (by rfl) (by go_simp; first | done | exact ⟨rfl, rfl⟩ | with_reducible rfl) rfl ?_
    refine (cG W sta).mono ?_
    rintro _ w1 ⟨rfl, hb1⟩
    refine ⟨_, rfl, ?_⟩
    simp only [nz]
    replace rc := range_below rc hb1 sc
    replace rs := range_below rs hb1 ss
    replace sta := sta.below hb1
    replace hz := hz.below hb1
    replace sc := Nat.lt_of_lt_of_le sc hb1.size
    replace ss := Nat.lt_of_lt_of_le ss hb1.size
    replace B := B.trans (hb1.mono B.size)
    have pe := (rs 0 _ hq0)
    refine pl_t 46 (.bool true) (by rfl) (by go_simp) rfl ?_
    simp only [nz]
    refine pl_t 47 (?_) (by rfl) ?_ rfl ?_
    rotate_left
    · go_simp
      try with_reducible rfl
    simp only [nz]
    refine pl_t 48 (?_) (by rfl) ?_ rfl ?_
    rotate_left
    · go_simp
      try with_reducible rfl
    simp only [nz]
    refine pl_skip (d := some 49) (by rfl) rfl ?_
    simp only [nz]
    refine pl_skip (d := some 50) (by rfl) rfl ?_
    simp only [nz]
    refine pl_skip (d := some 51) (by rfl) rfl ?_
    simp only [nz]
    refine pl_t 52 (?_) (by rfl) ?_ rfl ?_
    rotate_left
    · go_simp
      try with_reducible rfl
    simp only [nz]
    refine pl_nil ?_
    clear rc rs sta hz sc ss pw pp pe hb1
    go_upto_region 2 with fail
    try simp only [Act.put]
    refine pl_begin ?_
    refine pl_call (d := some 53) (by rfl) (by go_simp; first | done | exact ⟨rfl, rfl⟩ | with_reducible rfl) rfl ?_
    refine (Mk.lives_any w1).mono ?_
    rintro _ wL ⟨rfl, hbL⟩
    refine ⟨_, rfl, ?_⟩
    simp only [nz]
    refine pl_t 10 (?_) (by rfl) ?_ rfl ?_
    rotate_left
    · go_simp
      try with_reducible rfl
    simp only [nz]
    refine pl_nil ?_
    have HB := hide (B.trans (hbL.mono B.size))
    go_wp2_with fail
    go_ret
    exact ⟨rfl, HB.out⟩
  simp only [k3] at cG
  by_cases k4 : se < 2
  · have k4' : (se < 2) := k4
    clear cB ck cD
    try simp only [Act.put]
    refine pl_begin ?_
    refine pl_t 27 (?_) (by rfl) ?_ rfl ?_
    rotate_left
    · go_simp
      try with_reducible rfl
    simp only [nz]
    refine pl_t 28 (.slice wa wn wc) (by rfl) (pl_one rfl rfl pw Tryz.underlying33 rfl) rfl ?_
    simp only [nz]
    refine pl_t 29 (.int .i64 (wn : Int)) (by rfl) (by go_simp) rfl ?_
    simp only [nz]
    refine pl_t 30 (.bool false) (by rfl) (by go_simp <;> (try simp [*])) rfl ?_
    simp only [nz]
    refine pl_t 31 (?_) (by rfl) ?_ rfl ?_
    rotate_left
    · go_simp
      try with_reducible rfl
    simp only [nz]
    refine pl_t 32 (?_) (by rfl) ?_ rfl ?_
    rotate_left
    · go_simp
      try with_reducible rfl
    simp only [nz]
    refine pl_t 33 (.slice pa pn pc) (by rfl) (pl_one rfl rfl pp Tryz.underlying34 rfl) rfl ?_
    simp only [nz]
    refine pl_t 34 (.int .i64 (pn : Int)) (by rfl) (by go_simp) rfl ?_
    simp only [nz]
    refine pl_t 35 (.bool false) (by rfl) (by go_simp <;> (try simp [*])) rfl ?_
    simp only [nz]
    refine pl_t 36 (?_) (by rfl) ?_ rfl ?_
    rotate_left
    · go_simp
      try with_reducible rfl
    simp only [nz]
    refine pl_t 37 (?_) (by rfl) ?_ rfl ?_
    rotate_left
    · go_simp
      try with_reducible rfl
    simp only [nz]
    refine pl_t 38 (?_) (by rfl) ?_ rfl ?_
    rotate_left
    · go_simp
      try with_reducible rfl
    simp only [nz]
    refine pl_t 39 (.int .i64 (zn : Int)) (by rfl) (by go_simp) rfl ?_
    simp only [nz]
    refine pl_t 40 (.bool false) (by rfl) (by go_simp <;> (try simp [*])) rfl ?_
    simp only [nz]
    refine pl_t 41 (?_) (by rfl) ?_ rfl ?_
    rotate_left
    · go_simp
      try with_reducible rfl
    simp only [nz]
    refine pl_t 42 (?_) (by rfl) ?_ rfl ?_
    rotate_left
    · go_simp
      try with_reducible rfl
    simp only [nz]
    refine pl_t 43 (.agg u.toArray) (by rfl) (ex_mid rfl rfl rc Tryz.underlying23 rfl iu) rfl ?_
    simp only [nz]
    refine pl_t 44 (.agg q.toArray) (by rfl) (ex_mid rfl rfl rs Tryz.underlying36 rfl hiq) rfl ?_
    simp only [nz]
    refine pl_call (d := some 45) (by rfl) (by go_simp; first | done | exact ⟨rfl, rfl⟩ | with_reducible rfl) rfl ?_
    refine (cG W sta).mono ?_
    rintro _ w1 ⟨rfl, hb1⟩
    refine ⟨_, rfl, ?_⟩
    simp only [nz]
    replace rc := range_below rc hb1 sc
    replace rs := range_below rs hb1 ss
    replace sta := sta.below hb1
    replace hz := hz.below hb1
    replace sc := Nat.lt_of_lt_of_le sc hb1.size
    replace ss := Nat.lt_of_lt_of_le ss hb1.size
    replace B := B.trans (hb1.mono B.size)
    have pe := (rs 0 _ hq0)
    refine pl_t 46 (.bool false) (by rfl) (by go_simp) rfl ?_
    simp only [nz]
    refine pl_t 47 (?_) (by rfl) ?_ rfl ?_
    rotate_left
    · go_simp
      try with_reducible rfl
    simp only [nz]
    refine pl_t 48 (?_) (by rfl) ?_ rfl ?_
    rotate_left
    · go_simp
      try with_reducible rfl
    simp only [nz]
    refine pl_t 49 (?_) (by rfl) ?_ rfl ?_
    rotate_left
    · go_simp
      try with_reducible rfl
    simp only [nz]
    refine pl_t 50 (.int .i64 se) (by rfl) (pl_one rfl rfl pe Tryz.underlying3 rfl) rfl ?_
    simp only [nz]
    refine pl_t 51 (.bool true) (by rfl) (by go_simp <;> (try simp [*])) rfl ?_
    simp only [nz]
    refine pl_t 52 (?_) (by rfl) ?_ rfl ?_
    rotate_left
    · go_simp
      try with_reducible rfl
    simp only [nz]
    refine pl_nil ?_
    clear rc rs sta hz sc ss pw pp pe hb1
    go_upto_region 2 with fail
    try simp only [Act.put]
    refine pl_begin ?_
    refine pl_call (d := some 53) (by rfl) (by go_simp; first | done | exact ⟨rfl, rfl⟩ | with_reducible rfl) rfl ?_
    refine (Mk.lives_any w1).mono ?_
    rintro _ wL ⟨rfl, hbL⟩
    refine ⟨_, rfl, ?_⟩
    simp only [nz]
    refine pl_t 10 (?_) (by rfl) ?_ rfl ?_
    rotate_left
    · go_simp
      try with_reducible rfl
    simp only [nz]
    refine pl_nil ?_
    have HB := hide (B.trans (hbL.mono B.size))
    go_wp2_with fail
    go_ret
    exact ⟨rfl, HB.out⟩
  have k4' : ¬ (se < 2) := k4
  have hgn := good_n k3
  obtain ⟨N, hN⟩ : ∃ N : Nat, c.n = (N : Int) := ⟨c.n.toNat, by have := Qs.goodB_true hgn; omega⟩
  rw [hN] at hcn hgn
  have hN4 : 4 ≤ N ∧ N ≤ 64 := by have := Qs.goodB_true hgn; omega
  have hmm := most_of hgn
  have cM := fun w0 => Qs.most_any (N : Int) w0
  obtain ⟨mo, hmo⟩ : ∃ m, Hid (mostI (N : Int) = m) := ⟨_, hide rfl⟩
  simp only [hmo.out] at cM hmm
  have hfit := fit_of_good so sta k3
  have hwl : s.ws.xs.length ≤ 100 := by have := hfit.wl; show s.sp.ws.length ≤ 100; omega
  have hpl : s.ps.xs.length ≤ 200 := by have := hfit.pl; show s.sp.ps.length ≤ 200; omega
  have cB := fun w0 h0 => cB w0 h0 hwl hpl
  have cD := fun w0 g h0 => cD w0 g h0 hwl hpl
  simp only [dig_sp] at cD
  have hbt := Stt.byteM so (fun y hy => sta.ws.2.1 y hy) (fun z hz => sta.ps.2.1 z hz) hwl hpl
  have hble := Stt.bytes_le so sta hwl hpl
  have HSB : Hid (strL (strOf s.bytes) = s.bytes) := hide (strL_strOf hbt)
  have HSZ : Hid ((strOf s.bytes).size ≤ 5000) := hide (by rw [strOf_sizeM]; exact hble)
  have HBN := hide (bytes_ne so)
  have HFT := hide hfit
  have hse1 : se ≤ 1048577 := by have := hfit.e1; rw [← hse.out]; exact this
  have hbs := bodyS_le s.sp (by have := hfit.e0; omega) (by have := hfit.e1; omega)
  have cMk := fun w0 => mark13_any (s.e - 1) (sha (83 :: s.sp.bytes)) (by rw [hse.out]; omega) (sha_length _) (sha_ok _) w0
  have cMk : ∀ w0, Calls Tryz.prog 12 #[.int .i64 (s.e - 1), .agg (v8 (sha (83 :: s.sp.bytes))).toArray] w0 fun er w' => er = .returned (.string (bodyS s.sp)) ∧ Below w0.heap.size w0 w' := cMk
  obtain ⟨body, hbody⟩ : ∃ b, Hid (bodyS s.sp = b) := ⟨_, hide rfl⟩
  obtain ⟨dg, hdg⟩ : ∃ b, Hid (sha (83 :: s.sp.bytes) = b) := ⟨_, hide rfl⟩
  obtain ⟨sb, hsb⟩ : ∃ b, Hid (strOf s.bytes = b) := ⟨_, hide rfl⟩
  simp only [hbody.out, hdg.out, hse.out] at cMk
  simp only [hdg.out] at cD
  simp only [hsb.out] at cB
  rw [hsb.out] at HSB HSZ
  rw [hbody.out] at hbs
  obtain ⟨e1, he1⟩ : ∃ e, se - 1 = e := ⟨_, rfl⟩
  simp only [he1] at cMk
  have hsub : IntKind.i64.wrap (se - 1) = e1 := by rw [IntKind.wrap_i64]; have := hfit.e0; have h2 : s.sp.e = s.e := rfl; rw [h2, hse.out] at this; omega
  clear he1
  have K4 := hide k4'
  have HZ : Hid (zn ≤ 200) := hide k2
  have K3 := hide k3
  clear hfit hwl hpl hbt hble
  try simp only [Act.put]
  refine pl_begin ?_
  refine pl_t 27 (?_) (by rfl) ?_ rfl ?_
  rotate_left
  · go_simp
    try with_reducible rfl
  simp only [nz]
  refine pl_t 28 (.slice wa wn wc) (by rfl) (pl_one rfl rfl pw Tryz.underlying33 rfl) rfl ?_
  simp only [nz]
  refine pl_t 29 (.int .i64 (wn : Int)) (by rfl) (by go_simp) rfl ?_
  simp only [nz]
  refine pl_t 30 (.bool false) (by rfl) (by go_simp <;> (try simp [*])) rfl ?_
  simp only [nz]
  refine pl_t 31 (?_) (by rfl) ?_ rfl ?_
  rotate_left
  · go_simp
    try with_reducible rfl
  simp only [nz]
  refine pl_t 32 (?_) (by rfl) ?_ rfl ?_
  rotate_left
  · go_simp
    try with_reducible rfl
  simp only [nz]
  refine pl_t 33 (.slice pa pn pc) (by rfl) (pl_one rfl rfl pp Tryz.underlying34 rfl) rfl ?_
  simp only [nz]
  refine pl_t 34 (.int .i64 (pn : Int)) (by rfl) (by go_simp) rfl ?_
  simp only [nz]
  refine pl_t 35 (.bool false) (by rfl) (by go_simp <;> (try simp [*])) rfl ?_
  simp only [nz]
  refine pl_t 36 (?_) (by rfl) ?_ rfl ?_
  rotate_left
  · go_simp
    try with_reducible rfl
  simp only [nz]
  refine pl_t 37 (?_) (by rfl) ?_ rfl ?_
  rotate_left
  · go_simp
    try with_reducible rfl
  simp only [nz]
  refine pl_t 38 (?_) (by rfl) ?_ rfl ?_
  rotate_left
  · go_simp
    try with_reducible rfl
  simp only [nz]
  refine pl_t 39 (.int .i64 (zn : Int)) (by rfl) (by go_simp) rfl ?_
  simp only [nz]
  refine pl_t 40 (.bool false) (by rfl) (by go_simp <;> (try simp [*])) rfl ?_
  simp only [nz]
  refine pl_t 41 (?_) (by rfl) ?_ rfl ?_
  rotate_left
  · go_simp
    try with_reducible rfl
  simp only [nz]
  refine pl_t 42 (?_) (by rfl) ?_ rfl ?_
  rotate_left
  · go_simp
    try with_reducible rfl
  simp only [nz]
  refine pl_t 43 (.agg u.toArray) (by rfl) (ex_mid rfl rfl rc Tryz.underlying23 rfl iu) rfl ?_
  simp only [nz]
  refine pl_t 44 (.agg q.toArray) (by rfl) (ex_mid rfl rfl rs Tryz.underlying36 rfl hiq) rfl ?_
  simp only [nz]
  refine pl_call (d := some 45) (by rfl) (by go_simp; first | done | exact ⟨rfl, rfl⟩ | with_reducible rfl) rfl ?_
  refine (cG W sta).mono ?_
  rintro _ w1 ⟨rfl, hb1⟩
  refine ⟨_, rfl, ?_⟩
  simp only [nz]
  replace rc := range_below rc hb1 sc
  replace rs := range_below rs hb1 ss
  replace sta := sta.below hb1
  replace hz := hz.below hb1
  replace sc := Nat.lt_of_lt_of_le sc hb1.size
  replace ss := Nat.lt_of_lt_of_le ss hb1.size
  replace B := B.trans (hb1.mono B.size)
  have pe := (rs 0 _ hq0)
  refine pl_t 46 (.bool false) (by rfl) (by go_simp) rfl ?_
  simp only [nz]
  refine pl_t 47 (?_) (by rfl) ?_ rfl ?_
  rotate_left
  · go_simp
    try with_reducible rfl
  simp only [nz]
  refine pl_t 48 (?_) (by rfl) ?_ rfl ?_
  rotate_left
  · go_simp
    try with_reducible rfl
  simp only [nz]
  refine pl_t 49 (?_) (by rfl) ?_ rfl ?_
  rotate_left
  · go_simp
    try with_reducible rfl
  simp only [nz]
  refine pl_t 50 (.int .i64 se) (by rfl) (pl_one rfl rfl pe Tryz.underlying3 rfl) rfl ?_
  simp only [nz]
  refine pl_t 51 (.bool false) (by rfl) (by go_simp <;> (try simp [*])) rfl ?_
  simp only [nz]
  refine pl_t 52 (?_) (by rfl) ?_ rfl ?_
  rotate_left
  · go_simp
    try with_reducible rfl
  simp only [nz]
  refine pl_nil ?_
  clear pw pp pe hb1 cG k0 k0' k1 k1' k2 k2' k3 k4 k4'
  have ckw := ck w1 (HG.out.below B)
  obtain ⟨ks, hks⟩ : ∃ k, Hid (keysOf seedR 72 = k) := ⟨_, hide rfl⟩
  have hkne : Hid (ks ≠ []) := hide (fun h => by have := Qs.keysOf_length seedR 72; rw [hks.out, h] at this; simp at this)
  have HSO : Hid (∀ i : Nat, i < N → (signOf ks (i : Int) body).2 = 0) := hide (fun i hi => by rw [← hks.out]; exact signM seedR 72 i (by omega) body)
  rw [hks.out] at ckw
  obtain ⟨kq, hkq⟩ : ∃ k, Hid (rkL = k) := ⟨_, hide rfl⟩
  rw [hkq.out] at ckw ik hkl2 hk1
  go_upto_region 3 with fail
  try simp only [Act.put]
  refine pl_begin ?_
  refine pl_call (d := some 55) (by rfl) (by go_simp; first | done | exact ⟨rfl, rfl⟩ | with_reducible rfl) rfl ?_
  refine (ckw).mono ?_
  rintro _ w2 ⟨p, rfl, hp, hk, hb2⟩
  refine ⟨_, rfl, ?_⟩
  simp only [nz]
  replace rc := range_below rc hb2 sc
  replace rs := range_below rs hb2 ss
  replace sta := sta.below hb2
  replace hz := hz.below hb2
  replace sc := Nat.lt_of_lt_of_le sc hb2.size
  replace ss := Nat.lt_of_lt_of_le ss hb2.size
  replace B := B.trans (hb2.mono B.size)
  refine pl_t 54 (?_) (by rfl) ?_ rfl ?_
  rotate_left
  · go_simp
    try with_reducible rfl
  simp only [nz]
  refine pl_t 56 (?_) (by rfl) ?_ rfl ?_
  rotate_left
  · go_simp
    try with_reducible rfl
  simp only [nz]
  refine pl_t 57 (?_) (by rfl) ?_ rfl ?_
  rotate_left
  · go_simp
    try with_reducible rfl
  simp only [nz]
  refine pl_run (d := some 12) (v := .pointer (some ⟨w2.heap.size, 0, none⟩)) (w' := w2.alloc (.cells zk.toArray 28)) (by rfl) (ex_alloc rfl (hzkr _)) rfl ?_
  simp only [nz]
  refine pl_t 11 (?_) (by rfl) ?_ rfl ?_
  rotate_left
  · go_simp
    try with_reducible rfl
  simp only [nz]
  refine pl_store (w' := (w2.alloc (.cells zk.toArray 28)).setCells w2.heap.size 0 kq) (by rfl) (ex_put (cs := kq.toArray) rfl rfl rfl (there_newN _ _ _ (by simp [hzkl, hkl2])) (by simpa using ik) (all_one hk1)) rfl ?_
  refine pl_nil ?_
  obtain ⟨rk, hF, hF3, -⟩ := fresh_store w2 zk.toArray 28 kq (by simp [hzkl, hkl2])
  replace rc := range_below rc hF sc
  replace rs := range_below rs hF ss
  replace sta := sta.below hF
  replace hz := hz.below hF
  replace hk := hk.below hF
  replace sc := Nat.lt_of_lt_of_le sc hF.size
  replace ss := Nat.lt_of_lt_of_le ss hF.size
  replace B := B.trans (hF.mono B.size)
  obtain ⟨K, hK⟩ : ∃ X, w2.heap.size = X := ⟨_, rfl⟩
  simp only [hK] at rk hF hF3 rc rs sta hz sc ss B hk  ⊢
  obtain ⟨w3, hww3⟩ : ∃ W, (w2.alloc (.cells zk.toArray 28)).setCells K 0 kq = W := ⟨_, rfl⟩
  simp only [hww3] at rk hF hF3 rc rs sta hz sc ss B hk  ⊢
  have sK : K < w3.heap.size := by omega
  clear hF3 hww3 hK
  have sk := sK
  clear ckw ck hzkr hzkl zk hb2 hF
  go_upto_region 4 with fail
  try simp only [Act.put]
  refine pl_begin ?_
  refine pl_t 58 (.agg q.toArray) (by rfl) (ex_mid rfl rfl rs Tryz.underlying36 rfl hiq) rfl ?_
  simp only [nz]
  refine pl_call (d := some 59) (by rfl) (by go_simp; first | done | exact ⟨rfl, rfl⟩ | with_reducible rfl) rfl ?_
  refine (cB w3 sta).mono ?_
  rintro _ w4 ⟨rfl, hb4⟩
  refine ⟨_, rfl, ?_⟩
  simp only [nz]
  replace rc := range_below rc hb4 sc
  replace rs := range_below rs hb4 ss
  replace sta := sta.below hb4
  replace hz := hz.below hb4
  replace rk := range_below rk hb4 sk
  replace hk := hk.below hb4
  replace sc := Nat.lt_of_lt_of_le sc hb4.size
  replace ss := Nat.lt_of_lt_of_le ss hb4.size
  replace B := B.trans (hb4.mono B.size)
  replace sk := Nat.lt_of_lt_of_le sk hb4.size
  refine pl_t 13 (?_) (by rfl) ?_ rfl ?_
  rotate_left
  · go_simp
    try with_reducible rfl
  simp only [nz]
  refine pl_nil ?_
  clear cB hb4
  go_upto_region 5 with fail
  have hdr : Below w4.heap.size w4 w4.drew := (Below.refl _ _).drew
  replace rc := range_below rc hdr sc
  replace rs := range_below rs hdr ss
  replace sta := sta.below hdr
  replace hz := hz.below hdr
  replace rk := range_below rk hdr sk
  replace hk := hk.below hdr
  replace sc := Nat.lt_of_lt_of_le sc hdr.size
  replace ss := Nat.lt_of_lt_of_le ss hdr.size
  replace B := B.trans (hdr.mono B.size)
  replace sk := Nat.lt_of_lt_of_le sk hdr.size
  have pe := (rs 0 _ hq0)
  refine hs_begin (S := (Below w4.drew.heap.size w4.drew)) 7 rfl (by kernel_rfl) ?_
  obtain ⟨w8, hw8⟩ : ∃ W, w4.drew = W := ⟨_, rfl⟩
  rw [hw8] at rc rs sta hz sc ss B rk hk sk pe ⊢
  clear hdr hw8
  have hS : (Below w8.heap.size w8) w8 := Below.refl _ _
  refine hs_t 0 60 (?_) rfl (by kernel_rfl) (by kernel_rfl) (by kernel_rfl) (by rfl) ?_ hS rfl ?_
  rotate_left
  · intro w' hw
    go_simp
    try with_reducible rfl
  simp only [nz]
  refine hs_t 1 61 (.int .i64 se) rfl (by kernel_rfl) (by kernel_rfl) (by kernel_rfl) (by rfl) (fun w' hw => pl_one rfl rfl ((hw.cell (p := ⟨S, 0, none⟩) ss).trans pe) Tryz.underlying3 rfl) hS rfl ?_
  simp only [nz]
  refine hs_t 2 62 (.int .i64 e1) rfl (by kernel_rfl) (by kernel_rfl) (by kernel_rfl) (by rfl) (fun w' hw => by go_simp <;> (try simp [hsub])) hS rfl ?_
  simp only [nz]
  refine hs_t 3 63 (.agg q.toArray) rfl (by kernel_rfl) (by kernel_rfl) (by kernel_rfl) (by rfl) (fun w' hw => ex_mid rfl rfl (range_below rs hw ss) Tryz.underlying36 rfl hiq) hS rfl ?_
  simp only [nz]
  refine hs_call (i := 4) (d := some 64) rfl (by kernel_rfl) (by rfl) (by go_simp; first | done | exact ⟨rfl, rfl⟩ | with_reducible rfl) rfl ?_
  refine (cD w8 (HG.out.below B) sta).mono ?_
  rintro _ wa1 ⟨rfl, hb_wa⟩
  have hS : (Below w8.heap.size w8) wa1 := hS.trans (hb_wa.mono hS.size)
  refine ⟨_, rfl, hS, ?_⟩
  simp only [nz]
  refine hs_call (i := 5) (d := some 65) rfl (by kernel_rfl) (by rfl) (by go_simp; first | done | exact ⟨rfl, rfl⟩ | with_reducible rfl) rfl ?_
  refine (cMk wa1).mono ?_
  rintro _ wb ⟨rfl, hb_wb⟩
  have hS : (Below w8.heap.size w8) wb := hS.trans (hb_wb.mono hS.size)
  refine ⟨_, rfl, hS, ?_⟩
  simp only [nz]
  refine hs_t 6 14 (?_) rfl (by kernel_rfl) (by kernel_rfl) (by kernel_rfl) (by rfl) ?_ hS rfl ?_
  rotate_left
  · intro w' hw
    go_simp
    try with_reducible rfl
  simp only [nz]
  refine hs_done (by kernel_rfl) ?_
  replace rc := range_below rc hS sc
  replace rs := range_below rs hS ss
  replace sta := sta.below hS
  replace hz := hz.below hS
  replace rk := range_below rk hS sk
  replace hk := hk.below hS
  replace sc := Nat.lt_of_lt_of_le sc hS.size
  replace ss := Nat.lt_of_lt_of_le ss hS.size
  replace B := B.trans (hS.mono B.size)
  replace sk := Nat.lt_of_lt_of_le sk hS.size
  clear pe hS hb_wa hb_wb cD cMk hsub
  have HT0 := hide (TI.start (okS ks body) N zn wb)
  go_wp2_with fail
  go_loopw [15, 16] (fun lv iv wr => ∃ (i : Nat) (la : Option Addr) (cs : Nat) (ss : List Qs.Sg), i ≤ zn + N ∧ lv = .slice la ss.length cs ∧ iv = .int .i64 (i : Int) ∧ Hid (TI (okS ks body) N zn wb wr la cs ss i)) (fun _ iv _ => zn + N - (intOf iv).toNat)
  case atStart => exact ⟨0, none, 0, [], by omega, rfl, rfl, HT0⟩
  case round =>
    clear HT0
    obtain ⟨i, la, cs, l, hi, rfl, rfl, HT⟩ := hrel
    have hbr := HT.out.below
    replace rc := range_below rc hbr sc
    replace rs := range_below rs hbr ss
    replace sta := sta.below hbr
    replace hz := hz.below hbr
    replace rk := range_below rk hbr sk
    replace hk := hk.below hbr
    replace sc := Nat.lt_of_lt_of_le sc hbr.size
    replace ss := Nat.lt_of_lt_of_le ss hbr.size
    replace B := B.trans (hbr.mono B.size)
    replace sk := Nat.lt_of_lt_of_le sk hbr.size
    clear hbr
    by_cases hlt : (l.length : Int) < mo
    · have hiN : i < zn + N := by
        by_cases h : i < zn + N
        · exact h
        · have := HT.out.ends (by omega) (by omega); omega
      go_upto_region 8 with fail
      try simp only [Act.put]
      refine pl_begin ?_
      refine pl_t 66 (?_) (by rfl) ?_ rfl ?_
      rotate_left
      · go_simp
        try with_reducible rfl
      simp only [nz]
      refine pl_t 67 (.int .i64 (l.length : Int)) (by rfl) (by go_simp) rfl ?_
      simp only [nz]
      refine pl_t 68 (?_) (by rfl) ?_ rfl ?_
      rotate_left
      · go_simp
        try with_reducible rfl
      simp only [nz]
      refine pl_t 69 (.int .i64 (N : Int)) (by rfl) (pl_one rfl rfl (by simpa using rc 0 _ hcn) Tryz.underlying3 rfl) rfl ?_
      simp only [nz]
      refine pl_call (d := some 70) (by rfl) (by go_simp; first | done | exact ⟨rfl, rfl⟩ | with_reducible rfl) rfl ?_
      refine (cM wr).mono ?_
      rintro _ wq ⟨rfl, hx⟩
      obtain rfl := hx.symm
      clear hx
      refine ⟨_, rfl, ?_⟩
      simp only [nz]
      refine pl_t 71 (.bool true) (by rfl) (by go_simp <;> (try simp [*])) rfl ?_
      simp only [nz]
      refine pl_nil ?_
      have pn0 : wr.cell? ⟨C, 0, none⟩ = some (.int .i64 (N : Int)) := by simpa using rc 0 _ hcn
      obtain ⟨n0, HE⟩ : ∃ n, Hid (i % N = n) := ⟨_, hide rfl⟩
      have hn0 : n0 < N := by rw [← HE.out]; exact Nat.mod_lt _ (by omega)
      have hrem : (i : Int).tmod (N : Int) = (n0 : Int) := by rw [← HE.out, Int.tmod_eq_emod_of_nonneg (by omega)]; omega
      go_upto_region 10 with fail
      try simp only [Act.put]
      refine pl_begin ?_
      refine pl_t 74 (?_) (by rfl) ?_ rfl ?_
      rotate_left
      · go_simp
        try with_reducible rfl
      simp only [nz]
      refine pl_t 75 (?_) (by rfl) ?_ rfl ?_
      rotate_left
      · go_simp
        try with_reducible rfl
      simp only [nz]
      refine pl_t 76 (.int .i64 (N : Int)) (by rfl) (pl_one rfl rfl pn0 Tryz.underlying3 rfl) rfl ?_
      simp only [nz]
      refine pl_t 77 (.int .i64 (n0 : Int)) (by rfl) (by go_simp <;> (try simp [*]) <;> (try omega)) rfl ?_
      simp only [nz]
      refine pl_t 17 (?_) (by rfl) ?_ rfl ?_
      rotate_left
      · go_simp
        try with_reducible rfl
      simp only [nz]
      refine pl_nil ?_
      clear hrem
      by_cases hiz : i < zn
      · have k1 : (i : Int) < zn := by omega
        obtain ⟨zb, zo, hab, hzb, hre⟩ := RowsAt.elem hz i (by rw [HW.out.2.2]; exact hiz)
        have hab : ia = some ⟨zb, zo, none⟩ := hab
        have hre := hre 0 _ rfl
        obtain ⟨z, hzc⟩ : ∃ z, wr.cell? ⟨zb, zo + i, none⟩ = some (.int .i64 z) := ⟨_, by simpa [PnE] using hre⟩
        obtain ⟨n, hn, en⟩ := umodM z N (by omega) (by omega)
        have en2 : IntKind.i64.wrap ((IntKind.u64.wrap z).tmod (N : Int)) = (n : Int) := by first | exact en | (rw [IntKind.wrap_i64]; simpa only [wrap64] using en)
        have eNw : IntKind.u64.wrap (N : Int) = (N : Int) := by rw [IntKind.wrap_u64]; omega
        clear hre
        rw [hab]
        go_upto_region 11 with fail
        try simp only [Act.put]
        refine pl_begin ?_
        refine pl_t 78 (?_) (by rfl) ?_ rfl ?_
        rotate_left
        · go_simp
          try with_reducible rfl
        simp only [nz]
        refine pl_t 79 (?_) (by rfl) ?_ rfl ?_
        rotate_left
        · go_simp
          try with_reducible rfl
        simp only [nz]
        refine pl_t 80 (.int .i64 (zn : Int)) (by rfl) (by go_simp) rfl ?_
        simp only [nz]
        refine pl_t 81 (.bool true) (by rfl) (by go_simp <;> (try simp [*])) rfl ?_
        simp only [nz]
        refine pl_nil ?_
        go_upto_region 12 with fail
        have hdr : Below wr.heap.size wr wr.drew := (Below.refl _ _).drew
        have pn0 := (hdr.cell (p := ⟨C, 0, none⟩) sc).trans pn0
        have hzc := (hdr.cell (p := ⟨zb, zo + i, none⟩) hzb).trans hzc
        have hzb := Nat.lt_of_lt_of_le hzb hdr.size
        have HT := hide (TI.later HT.out hdr)
        replace rc := range_below rc hdr sc
        replace rs := range_below rs hdr ss
        replace sta := sta.below hdr
        replace hz := hz.below hdr
        replace rk := range_below rk hdr sk
        replace hk := hk.below hdr
        replace sc := Nat.lt_of_lt_of_le sc hdr.size
        replace ss := Nat.lt_of_lt_of_le ss hdr.size
        replace B := B.trans (hdr.mono B.size)
        replace sk := Nat.lt_of_lt_of_le sk hdr.size
        refine hs_begin (S := (Below wr.drew.heap.size wr.drew)) 11 rfl (by kernel_rfl) ?_
        obtain ⟨wr, hwr⟩ : ∃ W, wr.drew = W := ⟨_, rfl⟩
        rw [hwr] at rc rs sta hz sc ss B rk hk sk pn0 hzc hzb HT ⊢
        clear hdr hwr
        have hS : (Below wr.heap.size wr) wr := Below.refl _ _
        refine hs_t 0 82 (?_) rfl (by kernel_rfl) (by kernel_rfl) (by kernel_rfl) (by rfl) ?_ hS rfl ?_
        rotate_left
        · intro w' hw
          go_simp
          try with_reducible rfl
        simp only [nz]
        refine hs_t 1 83 (?_) rfl (by kernel_rfl) (by kernel_rfl) (by kernel_rfl) (by rfl) ?_ hS rfl ?_
        rotate_left
        · intro w' hw
          go_simp
          try with_reducible rfl
        simp only [nz]
        refine hs_t 2 84 (.pointer (some ⟨zb, zo + i, none⟩)) rfl (by kernel_rfl) (by kernel_rfl) (by kernel_rfl) (by rfl) (fun w' hw => by go_simp <;> (try simp [*])) hS rfl ?_
        simp only [nz]
        refine hs_t 3 85 (.int .i64 z) rfl (by kernel_rfl) (by kernel_rfl) (by kernel_rfl) (by rfl) (fun w' hw => pl_one rfl rfl ((hw.cell (p := ⟨zb, zo + i, none⟩) hzb).trans hzc) Tryz.underlying3 rfl) hS rfl ?_
        simp only [nz]
        refine hs_t 4 86 (.int .u64 (IntKind.u64.wrap z)) rfl (by kernel_rfl) (by kernel_rfl) (by kernel_rfl) (by rfl) (fun w' hw => by go_simp) hS rfl ?_
        simp only [nz]
        refine hs_t 5 87 (?_) rfl (by kernel_rfl) (by kernel_rfl) (by kernel_rfl) (by rfl) ?_ hS rfl ?_
        rotate_left
        · intro w' hw
          go_simp
          try with_reducible rfl
        simp only [nz]
        refine hs_t 6 88 (.int .i64 (N : Int)) rfl (by kernel_rfl) (by kernel_rfl) (by kernel_rfl) (by rfl) (fun w' hw => pl_one rfl rfl ((hw.cell (p := ⟨C, 0, none⟩) sc).trans pn0) Tryz.underlying3 rfl) hS rfl ?_
        simp only [nz]
        refine hs_t 7 89 (.int .u64 (N : Int)) rfl (by kernel_rfl) (by kernel_rfl) (by kernel_rfl) (by rfl) (fun w' hw => by go_simp <;> (try simp [eNw])) hS rfl ?_
        simp only [nz]
        refine hs_t 8 90 (.int .u64 ((IntKind.u64.wrap z).tmod (N : Int))) rfl (by kernel_rfl) (by kernel_rfl) (by kernel_rfl) (by rfl) (fun w' hw => by go_simp <;> (try simp [en2]) <;> (try omega)) hS rfl ?_
        simp only [nz]
        refine hs_t 9 91 (.int .i64 (n : Int)) rfl (by kernel_rfl) (by kernel_rfl) (by kernel_rfl) (by rfl) (fun w' hw => by go_simp <;> (try simp [en2])) hS rfl ?_
        simp only [nz]
        refine hs_t 10 17 (?_) rfl (by kernel_rfl) (by kernel_rfl) (by kernel_rfl) (by rfl) ?_ hS rfl ?_
        rotate_left
        · intro w' hw
          go_simp
          try with_reducible rfl
        simp only [nz]
        refine hs_done (by kernel_rfl) ?_
        clear hS pn0 hzc hzb en en2 eNw k1 hlt
        have csg := Qs.ksign_any p ks (n : Int) body wr (HG.out.below B) hk (.inr (by omega))
        have hs0 := HSO.out n hn
        have hl := Qs.signOf_length ks (n : Int) body
        have hlo := Qs.signOf_ok ks (n : Int) body
        obtain ⟨r, hr⟩ : ∃ r, Hid ((signOf ks (n : Int) body).1 = r) := ⟨_, hide rfl⟩
        have HOK : Hid (okS ks body ⟨(n : Int), r⟩ = true) := hide (by unfold okS checkOf; simp only [hr.out, hs0]; simp)
        rw [hr.out] at hl hlo csg
        rw [hs0] at csg
        have hsok : (Qs.Sg.mk (n : Int) r).ok := ⟨hl, hlo, by show _ ≤ (n : Int); omega, by show (n : Int) ≤ _; omega⟩
        have hr16 : (v8 r).length = 16 := by rw [v8_length, hl]
        have hr1 : ∀ v ∈ v8 r, v.oneCell' = true := v8_one r
        have it16 : (Tryz.prog.info? 51).map (·.size) = some (v8 r).length := by rw [hr16]; exact iszT
        have HJ : Hid (zn ≤ i → n = i % N) := hide (fun h => absurd h (by omega))
        clear hs0 hr hlo
        go_upto_region 13 with fail
        try simp only [Act.put]
        refine pl_begin ?_
        refine pl_t 93 (?_) (by rfl) ?_ rfl ?_
        rotate_left
        · go_simp
          try with_reducible rfl
        simp only [nz]
        refine pl_t 94 (?_) (by rfl) ?_ rfl ?_
        rotate_left
        · go_simp
          try with_reducible rfl
        simp only [nz]
        refine pl_t 95 (?_) (by rfl) ?_ rfl ?_
        rotate_left
        · go_simp
          try with_reducible rfl
        simp only [nz]
        refine pl_call (d := some 96) (by rfl) (by go_simp; first | done | exact ⟨rfl, rfl⟩ | with_reducible rfl) rfl ?_
        refine (csg).mono ?_
        rintro _ w5 ⟨rfl, hb5⟩
        refine ⟨_, rfl, ?_⟩
        simp only [nz]
        replace rc := range_below rc hb5 sc
        replace rs := range_below rs hb5 ss
        replace sta := sta.below hb5
        replace hz := hz.below hb5
        replace rk := range_below rk hb5 sk
        replace hk := hk.below hb5
        replace sc := Nat.lt_of_lt_of_le sc hb5.size
        replace ss := Nat.lt_of_lt_of_le ss hb5.size
        replace B := B.trans (hb5.mono B.size)
        replace sk := Nat.lt_of_lt_of_le sk hb5.size
        refine pl_t 92 (?_) (by rfl) ?_ rfl ?_
        rotate_left
        · go_simp
          try with_reducible rfl
        simp only [nz]
        refine pl_t 97 (?_) (by rfl) ?_ rfl ?_
        rotate_left
        · go_simp
          try with_reducible rfl
        simp only [nz]
        refine pl_t 98 (?_) (by rfl) ?_ rfl ?_
        rotate_left
        · go_simp
          try with_reducible rfl
        simp only [nz]
        refine pl_run (d := some 18) (v := .pointer (some ⟨w5.heap.size, 0, none⟩)) (w' := w5.alloc (.cells zt.toArray 51)) (by rfl) (ex_alloc rfl (hztr _)) rfl ?_
        simp only [nz]
        refine pl_store (w' := (w5.alloc (.cells zt.toArray 51)).setCells w5.heap.size 0 (v8 r)) (by rfl) (ex_put (cs := (v8 r).toArray) rfl rfl rfl (there_newN _ _ _ (by simp [hztl, hr16])) (by simpa using it16) (all_one hr1)) rfl ?_
        refine pl_t 19 (?_) (by rfl) ?_ rfl ?_
        rotate_left
        · go_simp
          try with_reducible rfl
        simp only [nz]
        refine pl_nil ?_
        obtain ⟨rt, hF, hF3, -⟩ := fresh_store w5 zt.toArray 51 (v8 r) (by simp [hztl, hr16])
        replace rc := range_below rc hF sc
        replace rs := range_below rs hF ss
        replace sta := sta.below hF
        replace hz := hz.below hF
        replace rk := range_below rk hF sk
        replace hk := hk.below hF
        replace sc := Nat.lt_of_lt_of_le sc hF.size
        replace ss := Nat.lt_of_lt_of_le ss hF.size
        replace B := B.trans (hF.mono B.size)
        replace sk := Nat.lt_of_lt_of_le sk hF.size
        have hb6 := hb5.trans (hF.mono hb5.size)
        obtain ⟨T, hT⟩ : ∃ X, w5.heap.size = X := ⟨_, rfl⟩
        simp only [hT] at rt hF hF3 rc rs sta hz sc ss B rk hk sk hb6 ⊢
        obtain ⟨w6, hww6⟩ : ∃ W, (w5.alloc (.cells zt.toArray 51)).setCells T 0 (v8 r) = W := ⟨_, rfl⟩
        simp only [hww6] at rt hF hF3 rc rs sta hz sc ss B rk hk sk hb6 ⊢
        have sT : T < w6.heap.size := by omega
        clear hF3 hww6 hT
        clear csg hb5 hF
        go_upto_region 14 with fail
        try simp only [Act.put]
        refine pl_begin ?_
        refine pl_t 99 (?_) (by rfl) ?_ rfl ?_
        rotate_left
        · go_simp
          try with_reducible rfl
        simp only [nz]
        refine pl_t 100 (.bool false) (by rfl) (by go_simp) rfl ?_
        simp only [nz]
        refine pl_nil ?_
        have caq := Qs.qadd_any la cs l ⟨(n : Int), r⟩ w6 (HT.out.at_.below hb6) HT.out.cap HT.out.capm hsok (by have := HT.out.len; omega)
        rw [show (Qs.Sg.mk (n : Int) r).cells = .int .i64 (n : Int) :: v8 r from rfl] at caq
        go_upto_region 16 with fail
        try simp only [Act.put]
        refine pl_begin ?_
        refine pl_t 101 (?_) (by rfl) ?_ rfl ?_
        rotate_left
        · go_simp
          try with_reducible rfl
        simp only [nz]
        refine pl_t 102 (?_) (by rfl) ?_ rfl ?_
        rotate_left
        · go_simp
          try with_reducible rfl
        simp only [nz]
        refine pl_t 103 (.agg (v8 r).toArray) (by rfl) (ex_mid rfl rfl rt Tryz.underlying51 rfl it16) rfl ?_
        simp only [nz]
        refine pl_t 104 (.agg (.int .i64 (n : Int) :: v8 r).toArray) (by rfl) (ex_build (parts := [(0, .tmp 102), (1, .tmp 103)]) (vs := [(0, .int .i64 (n : Int)), (1, .agg (v8 r).toArray)]) rfl (by first | with_reducible rfl | rfl | simp [Act.eval]) (build_sg (n : Int) (v8 r) hr16 w6)) rfl ?_
        simp only [nz]
        refine pl_call (d := some 105) (by rfl) (by go_simp; first | done | exact ⟨rfl, rfl⟩ | with_reducible rfl) rfl ?_
        refine (caq).mono ?_
        rintro _ w7 ⟨v7, rfl, ho7, hb7⟩
        refine ⟨_, rfl, ?_⟩
        simp only [nz]
        refine pl_t 15 (?_) (by rfl) ?_ rfl ?_
        rotate_left
        · go_simp
          try with_reducible rfl
        simp only [nz]
        refine pl_nil ?_
        have hlen7 : (addS l ⟨(n : Int), r⟩).length ≤ l.length + 1 := by
          unfold addS; split
          · omega
          · rw [Qs.insS_length]; exact Nat.le_refl _
        obtain ⟨lb, cb, rfl, hcb, hmb, hat7, -⟩ := ho7.sigs (by have := HT.out.len; unfold maxLen; omega)
        have HTN := hide (HT.out.next (hb6.trans (hb7.mono hb6.size)) hn rfl HOK.out hat7 hcb hmb HJ.out)
        clear caq ho7 hat7 hb7 hb6 rt
        have hz200 := HZ.out
        go_wp2_with fail
        go_roundw
        case rel => first | exact ⟨_, _, _, ⟨i + 1, by omega, lb, cb, _, rfl, rfl, HTN⟩, rfl, rfl, by go_num⟩ | exact ⟨i + 1, by omega, lb, cb, _, rfl, by go_num, HTN⟩ | exact ⟨i + 1, lb, cb, _, by omega, rfl, by go_num, HTN⟩
        case measure => simp [intOf]; omega
      · have k1 : ¬ (i : Int) < zn := by omega
        have hn := hn0
        go_upto_region 11 with fail
        try simp only [Act.put]
        refine pl_begin ?_
        refine pl_t 78 (?_) (by rfl) ?_ rfl ?_
        rotate_left
        · go_simp
          try with_reducible rfl
        simp only [nz]
        refine pl_t 79 (?_) (by rfl) ?_ rfl ?_
        rotate_left
        · go_simp
          try with_reducible rfl
        simp only [nz]
        refine pl_t 80 (.int .i64 (zn : Int)) (by rfl) (by go_simp) rfl ?_
        simp only [nz]
        refine pl_t 81 (.bool false) (by rfl) (by go_simp <;> (try simp [*])) rfl ?_
        simp only [nz]
        refine pl_nil ?_
        clear pn0 k1 hlt
        have csg := Qs.ksign_any p ks (n0 : Int) body wr (HG.out.below B) hk (.inr (by omega))
        have hs0 := HSO.out n0 hn
        have hl := Qs.signOf_length ks (n0 : Int) body
        have hlo := Qs.signOf_ok ks (n0 : Int) body
        obtain ⟨r, hr⟩ : ∃ r, Hid ((signOf ks (n0 : Int) body).1 = r) := ⟨_, hide rfl⟩
        have HOK : Hid (okS ks body ⟨(n0 : Int), r⟩ = true) := hide (by unfold okS checkOf; simp only [hr.out, hs0]; simp)
        rw [hr.out] at hl hlo csg
        rw [hs0] at csg
        have hsok : (Qs.Sg.mk (n0 : Int) r).ok := ⟨hl, hlo, by show _ ≤ (n0 : Int); omega, by show (n0 : Int) ≤ _; omega⟩
        have hr16 : (v8 r).length = 16 := by rw [v8_length, hl]
        have hr1 : ∀ v ∈ v8 r, v.oneCell' = true := v8_one r
        have it16 : (Tryz.prog.info? 51).map (·.size) = some (v8 r).length := by rw [hr16]; exact iszT
        have HJ : Hid (zn ≤ i → n0 = i % N) := hide (fun _ => HE.out.symm)
        clear hs0 hr hlo
        go_upto_region 13 with fail
        try simp only [Act.put]
        refine pl_begin ?_
        refine pl_t 93 (?_) (by rfl) ?_ rfl ?_
        rotate_left
        · go_simp
          try with_reducible rfl
        simp only [nz]
        refine pl_t 94 (?_) (by rfl) ?_ rfl ?_
        rotate_left
        · go_simp
          try with_reducible rfl
        simp only [nz]
        refine pl_t 95 (?_) (by rfl) ?_ rfl ?_
        rotate_left
        · go_simp
          try with_reducible rfl
        simp only [nz]
        refine pl_call (d := some 96) (by rfl) (by go_simp; first | done | exact ⟨rfl, rfl⟩ | with_reducible rfl) rfl ?_
        refine (csg).mono ?_
        rintro _ w5 ⟨rfl, hb5⟩
        refine ⟨_, rfl, ?_⟩
        simp only [nz]
        replace rc := range_below rc hb5 sc
        replace rs := range_below rs hb5 ss
        replace sta := sta.below hb5
        replace hz := hz.below hb5
        replace rk := range_below rk hb5 sk
        replace hk := hk.below hb5
        replace sc := Nat.lt_of_lt_of_le sc hb5.size
        replace ss := Nat.lt_of_lt_of_le ss hb5.size
        replace B := B.trans (hb5.mono B.size)
        replace sk := Nat.lt_of_lt_of_le sk hb5.size
        refine pl_t 92 (?_) (by rfl) ?_ rfl ?_
        rotate_left
        · go_simp
          try with_reducible rfl
        simp only [nz]
        refine pl_t 97 (?_) (by rfl) ?_ rfl ?_
        rotate_left
        · go_simp
          try with_reducible rfl
        simp only [nz]
        refine pl_t 98 (?_) (by rfl) ?_ rfl ?_
        rotate_left
        · go_simp
          try with_reducible rfl
        simp only [nz]
        refine pl_run (d := some 18) (v := .pointer (some ⟨w5.heap.size, 0, none⟩)) (w' := w5.alloc (.cells zt.toArray 51)) (by rfl) (ex_alloc rfl (hztr _)) rfl ?_
        simp only [nz]
        refine pl_store (w' := (w5.alloc (.cells zt.toArray 51)).setCells w5.heap.size 0 (v8 r)) (by rfl) (ex_put (cs := (v8 r).toArray) rfl rfl rfl (there_newN _ _ _ (by simp [hztl, hr16])) (by simpa using it16) (all_one hr1)) rfl ?_
        refine pl_t 19 (?_) (by rfl) ?_ rfl ?_
        rotate_left
        · go_simp
          try with_reducible rfl
        simp only [nz]
        refine pl_nil ?_
        obtain ⟨rt, hF, hF3, -⟩ := fresh_store w5 zt.toArray 51 (v8 r) (by simp [hztl, hr16])
        replace rc := range_below rc hF sc
        replace rs := range_below rs hF ss
        replace sta := sta.below hF
        replace hz := hz.below hF
        replace rk := range_below rk hF sk
        replace hk := hk.below hF
        replace sc := Nat.lt_of_lt_of_le sc hF.size
        replace ss := Nat.lt_of_lt_of_le ss hF.size
        replace B := B.trans (hF.mono B.size)
        replace sk := Nat.lt_of_lt_of_le sk hF.size
        have hb6 := hb5.trans (hF.mono hb5.size)
        obtain ⟨T, hT⟩ : ∃ X, w5.heap.size = X := ⟨_, rfl⟩
        simp only [hT] at rt hF hF3 rc rs sta hz sc ss B rk hk sk hb6 ⊢
        obtain ⟨w6, hww6⟩ : ∃ W, (w5.alloc (.cells zt.toArray 51)).setCells T 0 (v8 r) = W := ⟨_, rfl⟩
        simp only [hww6] at rt hF hF3 rc rs sta hz sc ss B rk hk sk hb6 ⊢
        have sT : T < w6.heap.size := by omega
        clear hF3 hww6 hT
        clear csg hb5 hF
        go_upto_region 14 with fail
        try simp only [Act.put]
        refine pl_begin ?_
        refine pl_t 99 (?_) (by rfl) ?_ rfl ?_
        rotate_left
        · go_simp
          try with_reducible rfl
        simp only [nz]
        refine pl_t 100 (.bool false) (by rfl) (by go_simp) rfl ?_
        simp only [nz]
        refine pl_nil ?_
        have caq := Qs.qadd_any la cs l ⟨(n0 : Int), r⟩ w6 (HT.out.at_.below hb6) HT.out.cap HT.out.capm hsok (by have := HT.out.len; omega)
        rw [show (Qs.Sg.mk (n0 : Int) r).cells = .int .i64 (n0 : Int) :: v8 r from rfl] at caq
        go_upto_region 16 with fail
        try simp only [Act.put]
        refine pl_begin ?_
        refine pl_t 101 (?_) (by rfl) ?_ rfl ?_
        rotate_left
        · go_simp
          try with_reducible rfl
        simp only [nz]
        refine pl_t 102 (?_) (by rfl) ?_ rfl ?_
        rotate_left
        · go_simp
          try with_reducible rfl
        simp only [nz]
        refine pl_t 103 (.agg (v8 r).toArray) (by rfl) (ex_mid rfl rfl rt Tryz.underlying51 rfl it16) rfl ?_
        simp only [nz]
        refine pl_t 104 (.agg (.int .i64 (n0 : Int) :: v8 r).toArray) (by rfl) (ex_build (parts := [(0, .tmp 102), (1, .tmp 103)]) (vs := [(0, .int .i64 (n0 : Int)), (1, .agg (v8 r).toArray)]) rfl (by first | with_reducible rfl | rfl | simp [Act.eval]) (build_sg (n0 : Int) (v8 r) hr16 w6)) rfl ?_
        simp only [nz]
        refine pl_call (d := some 105) (by rfl) (by go_simp; first | done | exact ⟨rfl, rfl⟩ | with_reducible rfl) rfl ?_
        refine (caq).mono ?_
        rintro _ w7 ⟨v7, rfl, ho7, hb7⟩
        refine ⟨_, rfl, ?_⟩
        simp only [nz]
        refine pl_t 15 (?_) (by rfl) ?_ rfl ?_
        rotate_left
        · go_simp
          try with_reducible rfl
        simp only [nz]
        refine pl_nil ?_
        have hlen7 : (addS l ⟨(n0 : Int), r⟩).length ≤ l.length + 1 := by
          unfold addS; split
          · omega
          · rw [Qs.insS_length]; exact Nat.le_refl _
        obtain ⟨lb, cb, rfl, hcb, hmb, hat7, -⟩ := ho7.sigs (by have := HT.out.len; unfold maxLen; omega)
        have HTN := hide (HT.out.next (hb6.trans (hb7.mono hb6.size)) hn rfl HOK.out hat7 hcb hmb HJ.out)
        clear caq ho7 hat7 hb7 hb6 rt
        have hz200 := HZ.out
        go_wp2_with fail
        go_roundw
        case rel => first | exact ⟨_, _, _, ⟨i + 1, by omega, lb, cb, _, rfl, rfl, HTN⟩, rfl, rfl, by go_num⟩ | exact ⟨i + 1, by omega, lb, cb, _, rfl, by go_num, HTN⟩ | exact ⟨i + 1, lb, cb, _, by omega, rfl, by go_num, HTN⟩
        case measure => simp [intOf]; omega
    · have hge : ¬ (l.length : Int) < mo := hlt
      have hlen := HT.out.len
      have HV : Hid (qcheckV (okS ks body) (N : Int) l mo = 0) := hide (check_yes hgn hmm.1 hmm.2 HT.out.run (by omega))
      have HCK : Hid (chkS (fun s => qcheckV (okS ks (bodyS s)) c.n l (mostI c.n)) c (strL sb) = (s.sp, 0)) := hide (by
        rw [HSB.out, Stt.bytes_sp]
        exact chk_yes HFT.out (by rw [← Stt.good_sp]; exact K3.out) (by show ¬ s.e < 2; rw [hse.out]; have := K4.out; omega) (by show qcheckV (okS ks (bodyS s.sp)) c.n l (mostI c.n) = 0; rw [hN, hmo.out, hbody.out]; exact HV.out))
      have cC := fun w0 g k t => ccheck_any p ks c sb la cs l w0 g k hkne.out HSZ.out t (by omega)
      rw [HCK.out] at cC
      unfold ParsA at cC
      simp only [hu.out] at cC
      have hat := HT.out.at_
      have HLP : Hid (0 < l.length) := hide (by omega)
      go_upto_region 8 with fail
      try simp only [Act.put]
      refine pl_begin ?_
      refine pl_t 66 (?_) (by rfl) ?_ rfl ?_
      rotate_left
      · go_simp
        try with_reducible rfl
      simp only [nz]
      refine pl_t 67 (.int .i64 (l.length : Int)) (by rfl) (by go_simp) rfl ?_
      simp only [nz]
      refine pl_t 68 (?_) (by rfl) ?_ rfl ?_
      rotate_left
      · go_simp
        try with_reducible rfl
      simp only [nz]
      refine pl_t 69 (.int .i64 (N : Int)) (by rfl) (pl_one rfl rfl (by simpa using rc 0 _ hcn) Tryz.underlying3 rfl) rfl ?_
      simp only [nz]
      refine pl_call (d := some 70) (by rfl) (by go_simp; first | done | exact ⟨rfl, rfl⟩ | with_reducible rfl) rfl ?_
      refine (cM wr).mono ?_
      rintro _ wq ⟨rfl, hx⟩
      obtain rfl := hx.symm
      clear hx
      refine ⟨_, rfl, ?_⟩
      simp only [nz]
      refine pl_t 71 (.bool false) (by rfl) (by go_simp <;> (try simp [*])) rfl ?_
      simp only [nz]
      refine pl_nil ?_
      clear hge hlt
      go_upto_region 17 with fail
      try simp only [Act.put]
      refine pl_begin ?_
      refine pl_t 107 (?_) (by rfl) ?_ rfl ?_
      rotate_left
      · go_simp
        try with_reducible rfl
      simp only [nz]
      refine pl_t 108 (.agg u.toArray) (by rfl) (ex_mid rfl rfl rc Tryz.underlying23 rfl iu) rfl ?_
      simp only [nz]
      refine pl_t 109 (?_) (by rfl) ?_ rfl ?_
      rotate_left
      · go_simp
        try with_reducible rfl
      simp only [nz]
      refine pl_t 110 (?_) (by rfl) ?_ rfl ?_
      rotate_left
      · go_simp
        try with_reducible rfl
      simp only [nz]
      refine pl_call (d := some 111) (by rfl) (by go_simp; first | done | exact ⟨rfl, rfl⟩ | with_reducible rfl) rfl ?_
      refine (cC wr (HG.out.below B) hk hat).mono ?_
      rintro _ w9 ⟨x, rfl, xs, xo, xa, xl, hb9⟩
      refine ⟨_, rfl, ?_⟩
      simp only [nz]
      replace rc := range_below rc hb9 sc
      replace rs := range_below rs hb9 ss
      replace sta := sta.below hb9
      replace hz := hz.below hb9
      replace rk := range_below rk hb9 sk
      replace hk := hk.below hb9
      replace hat := hat.below hb9
      replace sc := Nat.lt_of_lt_of_le sc hb9.size
      replace ss := Nat.lt_of_lt_of_le ss hb9.size
      replace B := B.trans (hb9.mono B.size)
      replace sk := Nat.lt_of_lt_of_le sk hb9.size
      have hxl : x.cells.length = 37 := Stt.len xo
      have hx1 := Stt.one x
      have hix : (Tryz.prog.info? 36).map (·.size) = some x.cells.length := by rw [hxl]; exact iszSt
      refine pl_t 106 (?_) (by rfl) ?_ rfl ?_
      rotate_left
      · go_simp
        try with_reducible rfl
      simp only [nz]
      refine pl_t 112 (?_) (by rfl) ?_ rfl ?_
      rotate_left
      · go_simp
        try with_reducible rfl
      simp only [nz]
      refine pl_t 113 (?_) (by rfl) ?_ rfl ?_
      rotate_left
      · go_simp
        try with_reducible rfl
      simp only [nz]
      refine pl_run (d := some 20) (v := .pointer (some ⟨w9.heap.size, 0, none⟩)) (w' := w9.alloc (.cells zc.toArray 36)) (by rfl) (ex_alloc rfl (hzr _)) rfl ?_
      simp only [nz]
      refine pl_store (w' := (w9.alloc (.cells zc.toArray 36)).setCells w9.heap.size 0 x.cells) (by rfl) (ex_put (cs := x.cells.toArray) rfl rfl rfl (there_newN _ _ _ (by simp [hzl, hxl])) (by simpa using hix) (all_one hx1)) rfl ?_
      refine pl_t 21 (?_) (by rfl) ?_ rfl ?_
      rotate_left
      · go_simp
        try with_reducible rfl
      simp only [nz]
      refine pl_nil ?_
      obtain ⟨rx, hF, hF3, -⟩ := fresh_store w9 zc.toArray 36 x.cells (by simp [hzl, hxl])
      replace rc := range_below rc hF sc
      replace rs := range_below rs hF ss
      replace sta := sta.below hF
      replace hz := hz.below hF
      replace rk := range_below rk hF sk
      replace hk := hk.below hF
      replace hat := hat.below hF
      replace xa := xa.below hF
      replace sc := Nat.lt_of_lt_of_le sc hF.size
      replace ss := Nat.lt_of_lt_of_le ss hF.size
      replace B := B.trans (hF.mono B.size)
      replace sk := Nat.lt_of_lt_of_le sk hF.size
      obtain ⟨Px, hPx⟩ : ∃ X, w9.heap.size = X := ⟨_, rfl⟩
      simp only [hPx] at rx hF hF3 rc rs sta hz sc ss B rk hk sk hat xa  ⊢
      obtain ⟨w10, hww10⟩ : ∃ W, (w9.alloc (.cells zc.toArray 36)).setCells Px 0 x.cells = W := ⟨_, rfl⟩
      simp only [hww10] at rx hF hF3 rc rs sta hz sc ss B rk hk sk hat xa  ⊢
      have sPx : Px < w10.heap.size := by omega
      clear hF3 hww10 hPx
      have cS := xssame_any x s w10 xo so xa sta
      rw [show x.B s = true from Stt.B_sp.2 xs] at cS
      simp only [hq.out] at cS
      clear cC xl hb9 hF
      go_upto_region 18 with fail
      try simp only [Act.put]
      refine pl_begin ?_
      refine pl_t 114 (?_) (by rfl) ?_ rfl ?_
      rotate_left
      · go_simp
        try with_reducible rfl
      simp only [nz]
      refine pl_t 115 (.bool false) (by rfl) (by go_simp) rfl ?_
      simp only [nz]
      refine pl_t 116 (?_) (by rfl) ?_ rfl ?_
      rotate_left
      · go_simp
        try with_reducible rfl
      simp only [nz]
      refine pl_t 117 (.agg x.cells.toArray) (by rfl) (ex_mid rfl rfl rx Tryz.underlying36 rfl hix) rfl ?_
      simp only [nz]
      refine pl_t 118 (.agg q.toArray) (by rfl) (ex_mid rfl rfl rs Tryz.underlying36 rfl hiq) rfl ?_
      simp only [nz]
      refine pl_call (d := some 119) (by rfl) (by go_simp; first | done | exact ⟨rfl, rfl⟩ | with_reducible rfl) rfl ?_
      refine (cS).mono ?_
      rintro _ w11 ⟨rfl, hb11⟩
      refine ⟨_, rfl, ?_⟩
      simp only [nz]
      replace rc := range_below rc hb11 sc
      replace rs := range_below rs hb11 ss
      replace sta := sta.below hb11
      replace hz := hz.below hb11
      replace rk := range_below rk hb11 sk
      replace hk := hk.below hb11
      replace hat := hat.below hb11
      replace sc := Nat.lt_of_lt_of_le sc hb11.size
      replace ss := Nat.lt_of_lt_of_le ss hb11.size
      replace B := B.trans (hb11.mono B.size)
      replace sk := Nat.lt_of_lt_of_le sk hb11.size
      refine pl_t 120 (?_) (by rfl) ?_ rfl ?_
      rotate_left
      · go_simp
        try with_reducible rfl
      simp only [nz]
      refine pl_t 121 (.bool false) (by rfl) (by go_simp) rfl ?_
      simp only [nz]
      refine pl_nil ?_
      clear rx hix hxl hx1 xa xo cS xs hb11
      have hsz6 : sb.size ≤ 1000000 := by have := HSZ.out; omega
      obtain ⟨bc, w12, hcv, rb, thb, sX, hb12⟩ := bytes_of2 sb hsz6 w11
      obtain ⟨L, hL⟩ : ∃ L, Hid (strL sb = L) := ⟨_, hide rfl⟩
      obtain ⟨Ln, hLn⟩ : ∃ n, Hid (L.length = n) := ⟨_, hide rfl⟩
      have hLb : 0 < Ln ∧ Ln ≤ 5000 := by rw [← hLn.out, ← hL.out]; exact ⟨by rw [HSB.out]; exact HBN.out, by rw [strL_length]; exact HSZ.out⟩
      rw [hL.out] at hcv rb thb
      rw [hLn.out] at hcv thb
      obtain ⟨m, hm, em⟩ := umodM at_ Ln hLb.1 (by omega)
      have em2 : IntKind.i64.wrap ((IntKind.u64.wrap at_).tmod (Ln : Int)) = (m : Int) := by first | exact em | (rw [IntKind.wrap_i64]; simpa only [wrap64] using em)
      have eLw : IntKind.u64.wrap (Ln : Int) = (Ln : Int) := by rw [IntKind.wrap_u64]; omega
      obtain ⟨b, hbm⟩ : ∃ b, w12.cell? ⟨w11.heap.size, m, none⟩ = some (.int .u8 b) := ⟨_, by simpa using rb m (.int .u8 (L[m]'(by rw [hLn.out]; exact hm))) (by simp [v8, List.getElem?_eq_getElem (show m < L.length by rw [hLn.out]; exact hm)])⟩
      obtain ⟨y8, hy8⟩ : ∃ y, Hid (bits .xor .u8 b tu = y) := ⟨_, hide rfl⟩
      have r13 := row_set rb m y8
      have hb13 : Below w11.heap.size w11 (w12.setCells w11.heap.size m [.int .u8 y8]) := below_sets (Nat.le_refl _) _ _ _ hb12
      have sX13 : w11.heap.size < (w12.setCells w11.heap.size m [.int .u8 y8]).heap.size := by rw [size_sets]; exact sX
      replace rc := range_below rc hb13 sc
      replace rs := range_below rs hb13 ss
      replace sta := sta.below hb13
      replace hz := hz.below hb13
      replace rk := range_below rk hb13 sk
      replace hk := hk.below hb13
      replace hat := hat.below hb13
      replace sc := Nat.lt_of_lt_of_le sc hb13.size
      replace ss := Nat.lt_of_lt_of_le ss hb13.size
      replace B := B.trans (hb13.mono B.size)
      replace sk := Nat.lt_of_lt_of_le sk hb13.size
      obtain ⟨X, hX⟩ : ∃ X, w11.heap.size = X := ⟨_, rfl⟩
      have km : (m : Int) < (Ln : Int) := by omega
      clear em
      go_upto_region 20 with fail
      try simp only [Act.put]
      refine pl_begin ?_
      refine pl_t 122 (?_) (by rfl) ?_ rfl ?_
      rotate_left
      · go_simp
        try with_reducible rfl
      simp only [nz]
      refine pl_run (d := some 123) (v := .slice (some ⟨w11.heap.size, 0, none⟩) Ln bc) (w' := w12) (by rfl) (ex_conv rfl rfl hcv) rfl ?_
      simp only [nz]
      refine pl_t 22 (?_) (by rfl) ?_ rfl ?_
      rotate_left
      · go_simp
        try with_reducible rfl
      simp only [nz]
      refine pl_nil ?_
      simp only [hX] at r13 hb13 sX13 hbm thb rc rs sta hz sc ss B rk hk sk hat ⊢
      go_upto_region 21 with fail
      try simp only [Act.put]
      refine pl_begin ?_
      refine pl_t 124 (?_) (by rfl) ?_ rfl ?_
      rotate_left
      · go_simp
        try with_reducible rfl
      simp only [nz]
      refine pl_t 125 (?_) (by rfl) ?_ rfl ?_
      rotate_left
      · go_simp
        try with_reducible rfl
      simp only [nz]
      refine pl_t 126 (.int .u64 (IntKind.u64.wrap at_)) (by rfl) (by go_simp) rfl ?_
      simp only [nz]
      refine pl_t 127 (?_) (by rfl) ?_ rfl ?_
      rotate_left
      · go_simp
        try with_reducible rfl
      simp only [nz]
      refine pl_t 128 (.int .i64 (Ln : Int)) (by rfl) (by go_simp) rfl ?_
      simp only [nz]
      refine pl_t 129 (.int .u64 (Ln : Int)) (by rfl) (by go_simp <;> (try simp [eLw])) rfl ?_
      simp only [nz]
      refine pl_t 130 (.int .u64 ((IntKind.u64.wrap at_).tmod (Ln : Int))) (by rfl) (by go_simp <;> (try simp [em2]) <;> (try omega)) rfl ?_
      simp only [nz]
      refine pl_t 131 (.int .i64 (m : Int)) (by rfl) (by go_simp <;> (try simp [em2])) rfl ?_
      simp only [nz]
      refine pl_t 132 (.pointer (some ⟨X, m, none⟩)) (by rfl) (by go_simp <;> (try simp [*])) rfl ?_
      simp only [nz]
      refine pl_t 133 (.int .u8 b) (by rfl) (pl_one rfl rfl hbm Tryz.underlying5 rfl) rfl ?_
      simp only [nz]
      refine pl_t 134 (?_) (by rfl) ?_ rfl ?_
      rotate_left
      · go_simp
        try with_reducible rfl
      simp only [nz]
      refine pl_t 135 (.int .u8 y8) (by rfl) (by go_simp <;> (try simp [hy8.out])) rfl ?_
      simp only [nz]
      refine pl_t 136 (.pointer (some ⟨X, m, none⟩)) (by rfl) (by go_simp <;> (try simp [*])) rfl ?_
      simp only [nz]
      refine pl_store (w' := w12.setCells X m [.int .u8 y8]) (by rfl) (ex_put1 (n := Ln) rfl rfl rfl thb hm isz8 rfl rfl) rfl ?_
      refine pl_nil ?_
      obtain ⟨w13, hw13⟩ : ∃ W, w12.setCells X m [.int .u8 y8] = W := ⟨_, rfl⟩
      simp only [hw13] at r13 hb13 sX13 rc rs sta hz sc ss B rk hk sk hat ⊢
      clear hw13 hbm thb em2 eLw km hb13 hb12 hcv rb hX rs sta hz ss
      obtain ⟨L2, hL2⟩ : ∃ l, Hid (L.set m y8 = l) := ⟨_, hide rfl⟩
      have hL2n : L2.length = Ln := by rw [← hL2.out, List.length_set]; exact hLn.out
      rw [hL2.out] at r13
      clear hL2
      obtain ⟨sb2, hsb2⟩ : ∃ s, Hid (strOf L2 = s) := ⟨_, hide rfl⟩
      have HCS : ∀ w0 : World, w0.rangeAt X 0 (v8 L2) → (convert 57 9 (.slice (some ⟨X, 0, none⟩) Ln bc)).run Tryz.prog w0 = .ok (.string sb2) w0 := fun w0 h0 => by rw [← hsb2.out, ← hL2n]; exact row_str h0
      have HS2 : Hid (sb2.size ≤ 5000) := hide (by rw [← hsb2.out, strOf_sizeM, hL2n]; exact hLb.2)
      have hcs := HCS w13 r13
      have hpg2 := parse_good (c := c) (zs := strL sb2)
      have cX := xsparse_any c sb2 w13 (by have := HS2.out; omega)
      unfold ParsA at cX
      obtain ⟨⟨sp2, f2⟩, hpp2⟩ : ∃ p : Sp × Int, Hid (parseS c (strL sb2) = p) := ⟨_, hide rfl⟩
      rw [hpp2.out] at cX hpg2
      simp only at cX hpg2
      simp only [hu.out] at cX
      go_upto_region 22 with fail
      try simp only [Act.put]
      refine pl_begin ?_
      refine pl_t 138 (.agg u.toArray) (by rfl) (ex_mid rfl rfl rc Tryz.underlying23 rfl iu) rfl ?_
      simp only [nz]
      refine pl_t 139 (?_) (by rfl) ?_ rfl ?_
      rotate_left
      · go_simp
        try with_reducible rfl
      simp only [nz]
      refine pl_run (d := some 140) (v := .string sb2) (w' := w13) (by rfl) (ex_conv rfl rfl hcs) rfl ?_
      simp only [nz]
      refine pl_call (d := some 141) (by rfl) (by go_simp; first | done | exact ⟨rfl, rfl⟩ | with_reducible rfl) rfl ?_
      refine (cX).mono ?_
      rintro _ w14 ⟨y, rfl, ys, yo, ya, yl, hb14⟩
      refine ⟨_, rfl, ?_⟩
      simp only [nz]
      replace rc := range_below rc hb14 sc
      replace rk := range_below rk hb14 sk
      replace hk := hk.below hb14
      replace hat := hat.below hb14
      replace r13 := range_below r13 hb14 sX13
      replace sc := Nat.lt_of_lt_of_le sc hb14.size
      replace sk := Nat.lt_of_lt_of_le sk hb14.size
      replace sX13 := Nat.lt_of_lt_of_le sX13 hb14.size
      replace B := B.trans (hb14.mono B.size)
      have hyl : y.cells.length = 37 := Stt.len yo
      have hy1 := Stt.one y
      have hiy : (Tryz.prog.info? 36).map (·.size) = some y.cells.length := by rw [hyl]; exact iszSt
      refine pl_t 137 (?_) (by rfl) ?_ rfl ?_
      rotate_left
      · go_simp
        try with_reducible rfl
      simp only [nz]
      refine pl_t 142 (?_) (by rfl) ?_ rfl ?_
      rotate_left
      · go_simp
        try with_reducible rfl
      simp only [nz]
      refine pl_t 143 (?_) (by rfl) ?_ rfl ?_
      rotate_left
      · go_simp
        try with_reducible rfl
      simp only [nz]
      refine pl_run (d := some 23) (v := .pointer (some ⟨w14.heap.size, 0, none⟩)) (w' := w14.alloc (.cells zc.toArray 36)) (by rfl) (ex_alloc rfl (hzr _)) rfl ?_
      simp only [nz]
      refine pl_store (w' := (w14.alloc (.cells zc.toArray 36)).setCells w14.heap.size 0 y.cells) (by rfl) (ex_put (cs := y.cells.toArray) rfl rfl rfl (there_newN _ _ _ (by simp [hzl, hyl])) (by simpa using hiy) (all_one hy1)) rfl ?_
      refine pl_t 24 (?_) (by rfl) ?_ rfl ?_
      rotate_left
      · go_simp
        try with_reducible rfl
      simp only [nz]
      refine pl_nil ?_
      obtain ⟨ry, hF, hF3, -⟩ := fresh_store w14 zc.toArray 36 y.cells (by simp [hzl, hyl])
      replace rc := range_below rc hF sc
      replace rk := range_below rk hF sk
      replace hk := hk.below hF
      replace hat := hat.below hF
      replace r13 := range_below r13 hF sX13
      replace ya := ya.below hF
      replace sc := Nat.lt_of_lt_of_le sc hF.size
      replace sk := Nat.lt_of_lt_of_le sk hF.size
      replace sX13 := Nat.lt_of_lt_of_le sX13 hF.size
      replace B := B.trans (hF.mono B.size)
      obtain ⟨Py, hPy⟩ : ∃ X, w14.heap.size = X := ⟨_, rfl⟩
      simp only [hPy] at ry hF hF3 rc rk hk hat r13 sc sk sX13 B ya  ⊢
      obtain ⟨w15, hww15⟩ : ∃ W, (w14.alloc (.cells zc.toArray 36)).setCells Py 0 y.cells = W := ⟨_, rfl⟩
      simp only [hww15] at ry hF hF3 rc rk hk hat r13 sc sk sX13 B ya  ⊢
      have sPy : Py < w15.heap.size := by omega
      clear hF3 hww15 hPy
      clear cX yl hb14 hF hcs hzr hzl
      obtain ⟨ye, hye⟩ : ∃ e, Hid (y.e = e) := ⟨_, hide rfl⟩
      have hy0 : y.cells[0]? = some (.int .i64 y.e) := rfl
      rw [hye.out] at hy0
      have pe2 := (ry 0 _ hy0)
      by_cases t0 : tu = 0
      · go_upto_region 23 with fail
        try simp only [Act.put]
        refine pl_begin ?_
        refine pl_t 144 (?_) (by rfl) ?_ rfl ?_
        rotate_left
        · go_simp
          try with_reducible rfl
        simp only [nz]
        refine pl_t 145 (.bool true) (by rfl) (by go_simp <;> (try simp [*])) rfl ?_
        simp only [nz]
        refine pl_t 146 (?_) (by rfl) ?_ rfl ?_
        rotate_left
        · go_simp
          try with_reducible rfl
        simp only [nz]
        refine pl_skip (d := some 147) (by rfl) rfl ?_
        simp only [nz]
        refine pl_skip (d := some 148) (by rfl) rfl ?_
        simp only [nz]
        refine pl_t 149 (?_) (by rfl) ?_ rfl ?_
        rotate_left
        · go_simp
          try with_reducible rfl
        simp only [nz]
        refine pl_t 150 (?_) (by rfl) ?_ rfl ?_
        rotate_left
        · go_simp
          try with_reducible rfl
        simp only [nz]
        refine pl_skip (d := some 151) (by rfl) rfl ?_
        simp only [nz]
        refine pl_skip (d := some 152) (by rfl) rfl ?_
        simp only [nz]
        refine pl_skip (d := some 153) (by rfl) rfl ?_
        simp only [nz]
        refine pl_t 154 (?_) (by rfl) ?_ rfl ?_
        rotate_left
        · go_simp
          try with_reducible rfl
        simp only [nz]
        refine pl_nil ?_
        clear rc rk hk hat r13 ya ry pe2
        go_upto_region 24 with fail
        try simp only [Act.put]
        refine pl_begin ?_
        refine pl_call (d := some 155) (by rfl) (by go_simp; first | done | exact ⟨rfl, rfl⟩ | with_reducible rfl) rfl ?_
        refine (Mk.lives_any w15).mono ?_
        rintro _ wL ⟨rfl, hbL⟩
        refine ⟨_, rfl, ?_⟩
        simp only [nz]
        refine pl_t 10 (?_) (by rfl) ?_ rfl ?_
        rotate_left
        · go_simp
          try with_reducible rfl
        simp only [nz]
        refine pl_nil ?_
        have HB := hide (B.trans (hbL.mono B.size))
        go_wp2_with fail
        go_ret
        exact ⟨rfl, HB.out⟩
      by_cases f0 : f2 = 0
      rotate_left
      · go_upto_region 23 with fail
        try simp only [Act.put]
        refine pl_begin ?_
        refine pl_t 144 (?_) (by rfl) ?_ rfl ?_
        rotate_left
        · go_simp
          try with_reducible rfl
        simp only [nz]
        refine pl_t 145 (.bool false) (by rfl) (by go_simp <;> (try simp [*])) rfl ?_
        simp only [nz]
        refine pl_t 146 (?_) (by rfl) ?_ rfl ?_
        rotate_left
        · go_simp
          try with_reducible rfl
        simp only [nz]
        refine pl_t 147 (?_) (by rfl) ?_ rfl ?_
        rotate_left
        · go_simp
          try with_reducible rfl
        simp only [nz]
        refine pl_t 148 (.bool true) (by rfl) (by go_simp <;> (try simp [*])) rfl ?_
        simp only [nz]
        refine pl_t 149 (?_) (by rfl) ?_ rfl ?_
        rotate_left
        · go_simp
          try with_reducible rfl
        simp only [nz]
        refine pl_t 150 (?_) (by rfl) ?_ rfl ?_
        rotate_left
        · go_simp
          try with_reducible rfl
        simp only [nz]
        refine pl_skip (d := some 151) (by rfl) rfl ?_
        simp only [nz]
        refine pl_skip (d := some 152) (by rfl) rfl ?_
        simp only [nz]
        refine pl_skip (d := some 153) (by rfl) rfl ?_
        simp only [nz]
        refine pl_t 154 (?_) (by rfl) ?_ rfl ?_
        rotate_left
        · go_simp
          try with_reducible rfl
        simp only [nz]
        refine pl_nil ?_
        clear rc rk hk hat r13 ya ry pe2
        go_upto_region 24 with fail
        try simp only [Act.put]
        refine pl_begin ?_
        refine pl_call (d := some 155) (by rfl) (by go_simp; first | done | exact ⟨rfl, rfl⟩ | with_reducible rfl) rfl ?_
        refine (Mk.lives_any w15).mono ?_
        rintro _ wL ⟨rfl, hbL⟩
        refine ⟨_, rfl, ?_⟩
        simp only [nz]
        refine pl_t 10 (?_) (by rfl) ?_ rfl ?_
        rotate_left
        · go_simp
          try with_reducible rfl
        simp only [nz]
        refine pl_nil ?_
        have HB := hide (B.trans (hbL.mono B.size))
        go_wp2_with fail
        go_ret
        exact ⟨rfl, HB.out⟩
      subst f0
      by_cases k23 : ye < 2
      · go_upto_region 23 with fail
        try simp only [Act.put]
        refine pl_begin ?_
        refine pl_t 144 (?_) (by rfl) ?_ rfl ?_
        rotate_left
        · go_simp
          try with_reducible rfl
        simp only [nz]
        refine pl_t 145 (.bool false) (by rfl) (by go_simp <;> (try simp [*])) rfl ?_
        simp only [nz]
        refine pl_t 146 (?_) (by rfl) ?_ rfl ?_
        rotate_left
        · go_simp
          try with_reducible rfl
        simp only [nz]
        refine pl_t 147 (?_) (by rfl) ?_ rfl ?_
        rotate_left
        · go_simp
          try with_reducible rfl
        simp only [nz]
        refine pl_t 148 (.bool false) (by rfl) (by go_simp <;> (try simp [*])) rfl ?_
        simp only [nz]
        refine pl_t 149 (?_) (by rfl) ?_ rfl ?_
        rotate_left
        · go_simp
          try with_reducible rfl
        simp only [nz]
        refine pl_t 150 (?_) (by rfl) ?_ rfl ?_
        rotate_left
        · go_simp
          try with_reducible rfl
        simp only [nz]
        refine pl_t 151 (?_) (by rfl) ?_ rfl ?_
        rotate_left
        · go_simp
          try with_reducible rfl
        simp only [nz]
        refine pl_t 152 (.int .i64 ye) (by rfl) (pl_one rfl rfl pe2 Tryz.underlying3 rfl) rfl ?_
        simp only [nz]
        refine pl_t 153 (.bool true) (by rfl) (by go_simp <;> (try simp [*])) rfl ?_
        simp only [nz]
        refine pl_t 154 (?_) (by rfl) ?_ rfl ?_
        rotate_left
        · go_simp
          try with_reducible rfl
        simp only [nz]
        refine pl_nil ?_
        clear rc rk hk hat r13 ya ry pe2
        go_upto_region 24 with fail
        try simp only [Act.put]
        refine pl_begin ?_
        refine pl_call (d := some 155) (by rfl) (by go_simp; first | done | exact ⟨rfl, rfl⟩ | with_reducible rfl) rfl ?_
        refine (Mk.lives_any w15).mono ?_
        rintro _ wL ⟨rfl, hbL⟩
        refine ⟨_, rfl, ?_⟩
        simp only [nz]
        refine pl_t 10 (?_) (by rfl) ?_ rfl ?_
        rotate_left
        · go_simp
          try with_reducible rfl
        simp only [nz]
        refine pl_nil ?_
        have HB := hide (B.trans (hbL.mono B.size))
        go_wp2_with fail
        go_ret
        exact ⟨rfl, HB.out⟩
      go_upto_region 23 with fail
      try simp only [Act.put]
      refine pl_begin ?_
      refine pl_t 144 (?_) (by rfl) ?_ rfl ?_
      rotate_left
      · go_simp
        try with_reducible rfl
      simp only [nz]
      refine pl_t 145 (.bool false) (by rfl) (by go_simp <;> (try simp [*])) rfl ?_
      simp only [nz]
      refine pl_t 146 (?_) (by rfl) ?_ rfl ?_
      rotate_left
      · go_simp
        try with_reducible rfl
      simp only [nz]
      refine pl_t 147 (?_) (by rfl) ?_ rfl ?_
      rotate_left
      · go_simp
        try with_reducible rfl
      simp only [nz]
      refine pl_t 148 (.bool false) (by rfl) (by go_simp <;> (try simp [*])) rfl ?_
      simp only [nz]
      refine pl_t 149 (?_) (by rfl) ?_ rfl ?_
      rotate_left
      · go_simp
        try with_reducible rfl
      simp only [nz]
      refine pl_t 150 (?_) (by rfl) ?_ rfl ?_
      rotate_left
      · go_simp
        try with_reducible rfl
      simp only [nz]
      refine pl_t 151 (?_) (by rfl) ?_ rfl ?_
      rotate_left
      · go_simp
        try with_reducible rfl
      simp only [nz]
      refine pl_t 152 (.int .i64 ye) (by rfl) (pl_one rfl rfl pe2 Tryz.underlying3 rfl) rfl ?_
      simp only [nz]
      refine pl_t 153 (.bool false) (by rfl) (by go_simp <;> (try simp [*])) rfl ?_
      simp only [nz]
      refine pl_t 154 (?_) (by rfl) ?_ rfl ?_
      rotate_left
      · go_simp
        try with_reducible rfl
      simp only [nz]
      refine pl_nil ?_
      have hgy : y.good c = true := by rw [Stt.good_sp, ys]; exact hpg2 rfl
      have hfy := fit_of_good yo ya hgy
      have hwly : y.ws.xs.length ≤ 100 := by have := hfy.wl; show y.sp.ws.length ≤ 100; omega
      have hply : y.ps.xs.length ≤ 200 := by have := hfy.pl; show y.sp.ps.length ≤ 200; omega
      have cDy := fun w0 h0 => xsdigest_any y w0 yo h0 hwly hply
      have hye0 : 0 ≤ ye ∧ ye ≤ 1048577 := ⟨by have := hfy.e0; rw [← hye.out]; exact this, by have := hfy.e1; rw [← hye.out]; exact this⟩
      have hbs2 := bodyS_le y.sp (by have := hfy.e0; omega) (by have := hfy.e1; omega)
      have cMy := fun w0 => xmark13_any (y.e - 1) (sha (83 :: y.sp.bytes)) (by rw [hye.out]; omega) (sha_length _) (sha_ok _) w0
      have cMy : ∀ w0, Calls Tryz.prog 19 #[.int .i64 (y.e - 1), .agg (v8 (sha (83 :: y.sp.bytes))).toArray] w0 fun er w' => er = .returned (.string (bodyS y.sp)) ∧ Below w0.heap.size w0 w' := cMy
      rw [dig_sp] at cDy
      have hlp := HLP.out
      obtain ⟨lb, lo, hlab, slb, hlr⟩ := hat.elem 0 hlp
      have hgok := hat.2.1 (l[0]'hlp) (List.getElem_mem hlp)
      obtain ⟨g0, hg0⟩ : ∃ g, Hid (l[0]'hlp = g) := ⟨_, hide rfl⟩
      rw [hg0.out] at hlr hgok
      have pn2 : w15.cell? ⟨lb, lo, none⟩ = some (.int .i64 g0.n) := by simpa using hlr 0 _ rfl
      have rt0 : w15.rangeAt lb (lo + 1) (v8 g0.t) := fun j v hv => by
        have := hlr (j + 1) v (by simpa [Qs.Sg.cells] using hv)
        rw [show lo + 0 * 17 + (j + 1) = lo + 1 + j by omega] at this
        exact this
      have hg16 : g0.t.length = 16 := hgok.tl
      clear hlr hgok
      subst hlab
      have cSy := fun w0 => Qs.refSign_any seedR ((72 : Nat) : Int) g0.n (bodyS y.sp) w0 (by decide) (by decide) (by omega)
      have hsame := Qs.sign_same seedR 72 (by decide) g0.n (bodyS y.sp)
      have hrl16 := Qs.refSignOf_length seedR ((72 : Nat) : Int) g0.n (bodyS y.sp)
      rw [hks.out] at hsame
      obtain ⟨⟨tg, er⟩, hsg⟩ : ∃ p : List Int × Int, Hid (refSignOf seedR ((72 : Nat) : Int) g0.n (bodyS y.sp) = p) := ⟨_, hide rfl⟩
      have cSy : ∀ w0, Calls Tryz.prog 18 #[.agg rkL.toArray, .int .i64 g0.n, .string (bodyS y.sp)] w0 _ := cSy
      rw [hkq.out] at cSy
      rw [hsg.out] at cSy hrl16 hsame
      simp only at cSy hrl16
      have htg16 : (v8 tg).length = 16 := by rw [v8_length, hrl16]
      have htg1 : ∀ v ∈ v8 tg, v.oneCell' = true := v8_one tg
      have htgi : (Tryz.prog.info? 51).map (·.size) = some (v8 tg).length := by rw [htg16]; exact iszT
      have eqT0 : ∀ w0, (binOp .eql 51 (.agg (v8 tg).toArray) (.agg (v8 tg).toArray)).run Tryz.prog w0 = .ok (.bool true) w0 := fun w0 => by rw [eqTg tg tg hrl16 hrl16]; simp
      have HW2 : Hid (∀ e : Int, e = (chkS (fun s => qcheckV (okS ks (bodyS s)) c.n l (mostI c.n)) c (strL sb2)).2 → e = 0 → tg = g0.t) := hide (fun e he h0 => by
        have h1 := chk_of (by rw [← he]; exact h0) (by rw [hpp2.out]) (by rw [hpp2.out, ← ys]; show ¬ y.e < 2; rw [hye.out]; exact k23)
        rw [hpp2.out] at h1
        simp only [← ys] at h1
        obtain ⟨q, lq, hlq⟩ : ∃ q lq, l = q :: lq := ⟨l[0]'hlp, l.tail, by cases l with | nil => simp at hlp | cons a b => rfl⟩
        have hq0 : q = g0 := by rw [← hg0.out]; simp [hlq]
        rw [hlq] at h1
        have h2 := check_first h1
        rw [hq0] at h2
        unfold okS at h2
        have h3 := ok_tag h2
        rw [hsame] at h3
        exact h3)
      obtain ⟨bd2, hbd2⟩ : ∃ b, Hid (bodyS y.sp = b) := ⟨_, hide rfl⟩
      obtain ⟨dg2, hdg2⟩ : ∃ b, Hid (sha (83 :: y.sp.bytes) = b) := ⟨_, hide rfl⟩
      rw [hbd2.out] at cSy
      simp only [hbd2.out, hdg2.out, hye.out] at cMy
      simp only [hdg2.out] at cDy
      obtain ⟨e2, he2⟩ : ∃ e, ye - 1 = e := ⟨_, rfl⟩
      have hsub2 : IntKind.i64.wrap (ye - 1) = e2 := by rw [IntKind.wrap_i64]; omega
      simp only [he2] at cMy
      clear he2 hfy hwly hply hgy hye0 hsame hpg2 hbs2 hrl16
      go_upto_region 25 with fail
      go_cut [25, 26] (fun p q wz => ∃ Z : Nat, p = .pointer (some ⟨Z, 0, none⟩) ∧ q = .int .i64 er ∧ Hid (Below w15.drew.heap.size w15.drew wz ∧ wz.rangeAt Z 0 (v8 tg) ∧ Z < wz.heap.size))
      case first =>
        have hdr : Below w15.heap.size w15 w15.drew := (Below.refl _ _).drew
        have pn2 := (hdr.cell (p := ⟨lb, lo, none⟩) slb).trans pn2
        replace rc := range_below rc hdr sc
        replace rk := range_below rk hdr sk
        replace hk := hk.below hdr
        replace hat := hat.below hdr
        replace r13 := range_below r13 hdr sX13
        replace ya := ya.below hdr
        replace ry := range_below ry hdr sPy
        replace rt0 := range_below rt0 hdr slb
        replace sc := Nat.lt_of_lt_of_le sc hdr.size
        replace sk := Nat.lt_of_lt_of_le sk hdr.size
        replace sX13 := Nat.lt_of_lt_of_le sX13 hdr.size
        replace sPy := Nat.lt_of_lt_of_le sPy hdr.size
        replace slb := Nat.lt_of_lt_of_le slb hdr.size
        replace B := B.trans (hdr.mono B.size)
        have pe2 := ry 0 _ hy0
        refine hs_begin (S := (Below w15.drew.heap.size w15.drew)) 18 rfl (by kernel_rfl) ?_
        obtain ⟨w8, hw8⟩ : ∃ W, w15.drew = W := ⟨_, rfl⟩
        rw [hw8] at rc rk hk hat r13 ya ry rt0 sc sk sX13 sPy slb B pe2 pn2 ⊢
        have HW8 := hide hw8
        clear hdr hw8
        have hS : (Below w8.heap.size w8) w8 := Below.refl _ _
        refine hs_t 0 157 (.agg kq.toArray) rfl (by kernel_rfl) (by kernel_rfl) (by kernel_rfl) (by rfl) (fun w' hw => ex_mid rfl rfl (range_below rk hw sk) Tryz.underlying28 rfl ik) hS rfl ?_
        simp only [nz]
        refine hs_t 1 158 (?_) rfl (by kernel_rfl) (by kernel_rfl) (by kernel_rfl) (by rfl) ?_ hS rfl ?_
        rotate_left
        · intro w' hw
          go_simp
          try with_reducible rfl
        simp only [nz]
        refine hs_t 2 159 (.pointer (some ⟨lb, lo, none⟩)) rfl (by kernel_rfl) (by kernel_rfl) (by kernel_rfl) (by rfl) (fun w' hw => by go_simp <;> (try simp [*])) hS rfl ?_
        simp only [nz]
        refine hs_t 3 160 (.pointer (some ⟨lb, lo, none⟩)) rfl (by kernel_rfl) (by kernel_rfl) (by kernel_rfl) (by rfl) (fun w' hw => by go_simp <;> (try simp [*])) hS rfl ?_
        simp only [nz]
        refine hs_t 4 161 (.int .i64 g0.n) rfl (by kernel_rfl) (by kernel_rfl) (by kernel_rfl) (by rfl) (fun w' hw => pl_one rfl rfl ((hw.cell (p := ⟨lb, lo, none⟩) slb).trans pn2) Tryz.underlying3 rfl) hS rfl ?_
        simp only [nz]
        refine hs_t 5 162 (?_) rfl (by kernel_rfl) (by kernel_rfl) (by kernel_rfl) (by rfl) ?_ hS rfl ?_
        rotate_left
        · intro w' hw
          go_simp
          try with_reducible rfl
        simp only [nz]
        refine hs_t 6 163 (.int .i64 ye) rfl (by kernel_rfl) (by kernel_rfl) (by kernel_rfl) (by rfl) (fun w' hw => pl_one rfl rfl ((hw.cell (p := ⟨Py, 0, none⟩) sPy).trans pe2) Tryz.underlying3 rfl) hS rfl ?_
        simp only [nz]
        refine hs_t 7 164 (.int .i64 e2) rfl (by kernel_rfl) (by kernel_rfl) (by kernel_rfl) (by rfl) (fun w' hw => by go_simp <;> (try simp [hsub2])) hS rfl ?_
        simp only [nz]
        refine hs_t 8 165 (.agg y.cells.toArray) rfl (by kernel_rfl) (by kernel_rfl) (by kernel_rfl) (by rfl) (fun w' hw => ex_mid rfl rfl (range_below ry hw sPy) Tryz.underlying36 rfl hiy) hS rfl ?_
        simp only [nz]
        refine hs_forkL (l := [9, 15]) (by kernel_rfl) (by simp) ?_
        intro ii hii
        simp only [List.mem_cons, List.not_mem_nil, or_false] at hii
        rcases hii with rfl | rfl
        · refine st_call (i := 9) (d := some 166) rfl (by rfl) (by go_simp; first | done | exact ⟨rfl, rfl⟩ | with_reducible rfl) rfl ?_
          refine (cDy w8 (ya.below hS)).mono ?_
          rintro _ wa ⟨rfl, hb_wa⟩
          have hS : (Below w8.heap.size w8) wa := hS.trans (hb_wa.mono hS.size)
          refine ⟨_, rfl, hS, ?_⟩
          simp only [nz]
          refine hs_forkL (l := [10, 15]) (by kernel_rfl) (by simp) ?_
          intro ii hii
          simp only [List.mem_cons, List.not_mem_nil, or_false] at hii
          rcases hii with rfl | rfl
          · refine st_call (i := 10) (d := some 167) rfl (by rfl) (by go_simp; first | done | exact ⟨rfl, rfl⟩ | with_reducible rfl) rfl ?_
            refine (cMy wa).mono ?_
            rintro _ wb ⟨rfl, hb_wb⟩
            have hS : (Below w8.heap.size w8) wb := hS.trans (hb_wb.mono hS.size)
            refine ⟨_, rfl, hS, ?_⟩
            simp only [nz]
            refine hs_forkL (l := [11, 15]) (by kernel_rfl) (by simp) ?_
            intro ii hii
            simp only [List.mem_cons, List.not_mem_nil, or_false] at hii
            rcases hii with rfl | rfl
            · refine st_call (i := 11) (d := some 168) rfl (by rfl) (by go_simp; first | done | exact ⟨rfl, rfl⟩ | with_reducible rfl) rfl ?_
              refine (cSy wb).mono ?_
              rintro _ wc ⟨rfl, hb_wc⟩
              have hS : (Below w8.heap.size w8) wc := hS.trans (hb_wc.mono hS.size)
              refine ⟨_, rfl, hS, ?_⟩
              simp only [nz]
              refine hs_t 12 156 (?_) rfl (by kernel_rfl) (by kernel_rfl) (by kernel_rfl) (by rfl) ?_ hS rfl ?_
              rotate_left
              · intro w' hw
                go_simp
                try with_reducible rfl
              simp only [nz]
              refine hs_t 13 169 (?_) rfl (by kernel_rfl) (by kernel_rfl) (by kernel_rfl) (by rfl) ?_ hS rfl ?_
              rotate_left
              · intro w' hw
                go_simp
                try with_reducible rfl
              simp only [nz]
              refine hs_t 14 170 (?_) rfl (by kernel_rfl) (by kernel_rfl) (by kernel_rfl) (by rfl) ?_ hS rfl ?_
              rotate_left
              · intro w' hw
                go_simp
                try with_reducible rfl
              simp only [nz]
              obtain ⟨Z, HZZ⟩ : ∃ x, Hid (wc.heap.size = x) := ⟨_, hide rfl⟩
              have hZw : w8.heap.size ≤ Z := by have := hS.size; have := HZZ.out; omega
              have hb_wd : Below wc.heap.size wc (wc.alloc (.cells zt.toArray 51)) := (Below.refl _ _).alloc (Nat.le_refl _) _
              have tn : (wc.alloc (.cells zt.toArray 51)).there Z 0 16 := by rw [← HZZ.out]; exact there_newN wc zt.toArray 51 (n := 16) (by simp [hztl])
              have ln : Z < (wc.alloc (.cells zt.toArray 51)).heap.size := by rw [← HZZ.out]; exact (boxed_new wc zt 51).2.2
              have hS' : (Below w8.heap.size w8) (wc.alloc (.cells zt.toArray 51)) := hS.trans (hb_wd.mono hS.size)
              refine hs_run (i := 15) (d := some 25) (v := .pointer (some ⟨Z, 0, none⟩)) (w' := wc.alloc (.cells zt.toArray 51)) rfl (by kernel_rfl) (by rfl) (by rw [← HZZ.out]; exact ex_alloc rfl (hztr _)) rfl hS' ?_
              simp only [nz]
              obtain ⟨wd, h_wd⟩ : ∃ W, wc.alloc (.cells zt.toArray 51) = W := ⟨_, rfl⟩
              rw [h_wd] at hb_wd tn ln hS' ⊢
              clear h_wd
              have hS : (Below w8.heap.size w8) wd := hS'
              clear hS'
              have hS2 : (Below w8.heap.size w8) (wd.setCells Z 0 (v8 tg)) := below_sets hZw (v8 tg) 0 _ hS
              have rtg : (wd.setCells Z 0 (v8 tg)).rangeAt Z 0 (v8 tg) := World.rangeAt_setCells_same wd Z 0 (v8 tg) (by rw [htg16]; exact tn)
              refine hs_store (i := 16) (w' := wd.setCells Z 0 (v8 tg)) rfl (by kernel_rfl) (by rfl) (ex_put (cs := (v8 tg).toArray) rfl rfl rfl (by simpa [htg16] using tn) (by simpa using htgi) (all_one htg1)) rfl hS2 ?_
              have sZ9 : Z < (wd.setCells Z 0 (v8 tg)).heap.size := by rw [size_sets]; exact ln
              have hS : (Below w8.heap.size w8) (wd.setCells Z 0 (v8 tg)) := hS2
              refine hs_t 17 26 (?_) rfl (by kernel_rfl) (by kernel_rfl) (by kernel_rfl) (by rfl) ?_ hS rfl ?_
              rotate_left
              · intro w' hw
                go_simp
                try with_reducible rfl
              simp only [nz]
              refine hs_done (by kernel_rfl) ?_
              go_wp2_with fail
              go_meet
              exact ⟨Z, rfl, rfl, hide (by rw [HW8.out]; exact ⟨hS, rtg, sZ9⟩)⟩
            · obtain ⟨Z, HZZ⟩ : ∃ x, Hid (wb.heap.size = x) := ⟨_, hide rfl⟩
              have hZw : w8.heap.size ≤ Z := by have := hS.size; have := HZZ.out; omega
              have hb_wc : Below wb.heap.size wb (wb.alloc (.cells zt.toArray 51)) := (Below.refl _ _).alloc (Nat.le_refl _) _
              have tn : (wb.alloc (.cells zt.toArray 51)).there Z 0 16 := by rw [← HZZ.out]; exact there_newN wb zt.toArray 51 (n := 16) (by simp [hztl])
              have ln : Z < (wb.alloc (.cells zt.toArray 51)).heap.size := by rw [← HZZ.out]; exact (boxed_new wb zt 51).2.2
              have hS' : (Below w8.heap.size w8) (wb.alloc (.cells zt.toArray 51)) := hS.trans (hb_wc.mono hS.size)
              refine st_run (i := 15) (d := some 25) (v := .pointer (some ⟨Z, 0, none⟩)) (w' := wb.alloc (.cells zt.toArray 51)) rfl (by rfl) (by rw [← HZZ.out]; exact ex_alloc rfl (hztr _)) rfl hS' ?_
              simp only [nz]
              obtain ⟨wc, h_wc⟩ : ∃ W, wb.alloc (.cells zt.toArray 51) = W := ⟨_, rfl⟩
              rw [h_wc] at hb_wc tn ln hS' ⊢
              clear h_wc
              have hS : (Below w8.heap.size w8) wc := hS'
              clear hS'
              refine hs_call (i := 11) (d := some 168) rfl (by kernel_rfl) (by rfl) (by go_simp; first | done | exact ⟨rfl, rfl⟩ | with_reducible rfl) rfl ?_
              refine (cSy wc).mono ?_
              rintro _ wd ⟨rfl, hb_wd⟩
              have hS : (Below w8.heap.size w8) wd := hS.trans (hb_wd.mono hS.size)
              refine ⟨_, rfl, hS, ?_⟩
              simp only [nz]
              have tn := there_below tn hb_wd ln
              have ln := Nat.lt_of_lt_of_le ln hb_wd.size
              refine hs_t 12 156 (?_) rfl (by kernel_rfl) (by kernel_rfl) (by kernel_rfl) (by rfl) ?_ hS rfl ?_
              rotate_left
              · intro w' hw
                go_simp
                try with_reducible rfl
              simp only [nz]
              refine hs_t 13 169 (?_) rfl (by kernel_rfl) (by kernel_rfl) (by kernel_rfl) (by rfl) ?_ hS rfl ?_
              rotate_left
              · intro w' hw
                go_simp
                try with_reducible rfl
              simp only [nz]
              refine hs_t 14 170 (?_) rfl (by kernel_rfl) (by kernel_rfl) (by kernel_rfl) (by rfl) ?_ hS rfl ?_
              rotate_left
              · intro w' hw
                go_simp
                try with_reducible rfl
              simp only [nz]
              have hS2 : (Below w8.heap.size w8) (wd.setCells Z 0 (v8 tg)) := below_sets hZw (v8 tg) 0 _ hS
              have rtg : (wd.setCells Z 0 (v8 tg)).rangeAt Z 0 (v8 tg) := World.rangeAt_setCells_same wd Z 0 (v8 tg) (by rw [htg16]; exact tn)
              refine hs_store (i := 16) (w' := wd.setCells Z 0 (v8 tg)) rfl (by kernel_rfl) (by rfl) (ex_put (cs := (v8 tg).toArray) rfl rfl rfl (by simpa [htg16] using tn) (by simpa using htgi) (all_one htg1)) rfl hS2 ?_
              have sZ9 : Z < (wd.setCells Z 0 (v8 tg)).heap.size := by rw [size_sets]; exact ln
              have hS : (Below w8.heap.size w8) (wd.setCells Z 0 (v8 tg)) := hS2
              refine hs_t 17 26 (?_) rfl (by kernel_rfl) (by kernel_rfl) (by kernel_rfl) (by rfl) ?_ hS rfl ?_
              rotate_left
              · intro w' hw
                go_simp
                try with_reducible rfl
              simp only [nz]
              refine hs_done (by kernel_rfl) ?_
              go_wp2_with fail
              go_meet
              exact ⟨Z, rfl, rfl, hide (by rw [HW8.out]; exact ⟨hS, rtg, sZ9⟩)⟩
          · obtain ⟨Z, HZZ⟩ : ∃ x, Hid (wa.heap.size = x) := ⟨_, hide rfl⟩
            have hZw : w8.heap.size ≤ Z := by have := hS.size; have := HZZ.out; omega
            have hb_wb : Below wa.heap.size wa (wa.alloc (.cells zt.toArray 51)) := (Below.refl _ _).alloc (Nat.le_refl _) _
            have tn : (wa.alloc (.cells zt.toArray 51)).there Z 0 16 := by rw [← HZZ.out]; exact there_newN wa zt.toArray 51 (n := 16) (by simp [hztl])
            have ln : Z < (wa.alloc (.cells zt.toArray 51)).heap.size := by rw [← HZZ.out]; exact (boxed_new wa zt 51).2.2
            have hS' : (Below w8.heap.size w8) (wa.alloc (.cells zt.toArray 51)) := hS.trans (hb_wb.mono hS.size)
            refine st_run (i := 15) (d := some 25) (v := .pointer (some ⟨Z, 0, none⟩)) (w' := wa.alloc (.cells zt.toArray 51)) rfl (by rfl) (by rw [← HZZ.out]; exact ex_alloc rfl (hztr _)) rfl hS' ?_
            simp only [nz]
            obtain ⟨wb, h_wb⟩ : ∃ W, wa.alloc (.cells zt.toArray 51) = W := ⟨_, rfl⟩
            rw [h_wb] at hb_wb tn ln hS' ⊢
            clear h_wb
            have hS : (Below w8.heap.size w8) wb := hS'
            clear hS'
            refine hs_call (i := 10) (d := some 167) rfl (by kernel_rfl) (by rfl) (by go_simp; first | done | exact ⟨rfl, rfl⟩ | with_reducible rfl) rfl ?_
            refine (cMy wb).mono ?_
            rintro _ wc ⟨rfl, hb_wc⟩
            have hS : (Below w8.heap.size w8) wc := hS.trans (hb_wc.mono hS.size)
            refine ⟨_, rfl, hS, ?_⟩
            simp only [nz]
            have tn := there_below tn hb_wc ln
            have ln := Nat.lt_of_lt_of_le ln hb_wc.size
            refine hs_call (i := 11) (d := some 168) rfl (by kernel_rfl) (by rfl) (by go_simp; first | done | exact ⟨rfl, rfl⟩ | with_reducible rfl) rfl ?_
            refine (cSy wc).mono ?_
            rintro _ wd ⟨rfl, hb_wd⟩
            have hS : (Below w8.heap.size w8) wd := hS.trans (hb_wd.mono hS.size)
            refine ⟨_, rfl, hS, ?_⟩
            simp only [nz]
            have tn := there_below tn hb_wd ln
            have ln := Nat.lt_of_lt_of_le ln hb_wd.size
            refine hs_t 12 156 (?_) rfl (by kernel_rfl) (by kernel_rfl) (by kernel_rfl) (by rfl) ?_ hS rfl ?_
            rotate_left
            · intro w' hw
              go_simp
              try with_reducible rfl
            simp only [nz]
            refine hs_t 13 169 (?_) rfl (by kernel_rfl) (by kernel_rfl) (by kernel_rfl) (by rfl) ?_ hS rfl ?_
            rotate_left
            · intro w' hw
              go_simp
              try with_reducible rfl
            simp only [nz]
            refine hs_t 14 170 (?_) rfl (by kernel_rfl) (by kernel_rfl) (by kernel_rfl) (by rfl) ?_ hS rfl ?_
            rotate_left
            · intro w' hw
              go_simp
              try with_reducible rfl
            simp only [nz]
            have hS2 : (Below w8.heap.size w8) (wd.setCells Z 0 (v8 tg)) := below_sets hZw (v8 tg) 0 _ hS
            have rtg : (wd.setCells Z 0 (v8 tg)).rangeAt Z 0 (v8 tg) := World.rangeAt_setCells_same wd Z 0 (v8 tg) (by rw [htg16]; exact tn)
            refine hs_store (i := 16) (w' := wd.setCells Z 0 (v8 tg)) rfl (by kernel_rfl) (by rfl) (ex_put (cs := (v8 tg).toArray) rfl rfl rfl (by simpa [htg16] using tn) (by simpa using htgi) (all_one htg1)) rfl hS2 ?_
            have sZ9 : Z < (wd.setCells Z 0 (v8 tg)).heap.size := by rw [size_sets]; exact ln
            have hS : (Below w8.heap.size w8) (wd.setCells Z 0 (v8 tg)) := hS2
            refine hs_t 17 26 (?_) rfl (by kernel_rfl) (by kernel_rfl) (by kernel_rfl) (by rfl) ?_ hS rfl ?_
            rotate_left
            · intro w' hw
              go_simp
              try with_reducible rfl
            simp only [nz]
            refine hs_done (by kernel_rfl) ?_
            go_wp2_with fail
            go_meet
            exact ⟨Z, rfl, rfl, hide (by rw [HW8.out]; exact ⟨hS, rtg, sZ9⟩)⟩
        · obtain ⟨Z, HZZ⟩ : ∃ x, Hid (w8.heap.size = x) := ⟨_, hide rfl⟩
          have hZw : w8.heap.size ≤ Z := by have := hS.size; have := HZZ.out; omega
          have hb_wa : Below w8.heap.size w8 (w8.alloc (.cells zt.toArray 51)) := (Below.refl _ _).alloc (Nat.le_refl _) _
          have tn : (w8.alloc (.cells zt.toArray 51)).there Z 0 16 := by rw [← HZZ.out]; exact there_newN w8 zt.toArray 51 (n := 16) (by simp [hztl])
          have ln : Z < (w8.alloc (.cells zt.toArray 51)).heap.size := by rw [← HZZ.out]; exact (boxed_new w8 zt 51).2.2
          have hS' : (Below w8.heap.size w8) (w8.alloc (.cells zt.toArray 51)) := hS.trans (hb_wa.mono hS.size)
          refine st_run (i := 15) (d := some 25) (v := .pointer (some ⟨Z, 0, none⟩)) (w' := w8.alloc (.cells zt.toArray 51)) rfl (by rfl) (by rw [← HZZ.out]; exact ex_alloc rfl (hztr _)) rfl hS' ?_
          simp only [nz]
          obtain ⟨wa, h_wa⟩ : ∃ W, w8.alloc (.cells zt.toArray 51) = W := ⟨_, rfl⟩
          rw [h_wa] at hb_wa tn ln hS' ⊢
          clear h_wa
          have hS : (Below w8.heap.size w8) wa := hS'
          clear hS'
          refine hs_call (i := 9) (d := some 166) rfl (by kernel_rfl) (by rfl) (by go_simp; first | done | exact ⟨rfl, rfl⟩ | with_reducible rfl) rfl ?_
          refine (cDy wa (ya.below hS)).mono ?_
          rintro _ wb ⟨rfl, hb_wb⟩
          have hS : (Below w8.heap.size w8) wb := hS.trans (hb_wb.mono hS.size)
          refine ⟨_, rfl, hS, ?_⟩
          simp only [nz]
          have tn := there_below tn hb_wb ln
          have ln := Nat.lt_of_lt_of_le ln hb_wb.size
          refine hs_call (i := 10) (d := some 167) rfl (by kernel_rfl) (by rfl) (by go_simp; first | done | exact ⟨rfl, rfl⟩ | with_reducible rfl) rfl ?_
          refine (cMy wb).mono ?_
          rintro _ wc ⟨rfl, hb_wc⟩
          have hS : (Below w8.heap.size w8) wc := hS.trans (hb_wc.mono hS.size)
          refine ⟨_, rfl, hS, ?_⟩
          simp only [nz]
          have tn := there_below tn hb_wc ln
          have ln := Nat.lt_of_lt_of_le ln hb_wc.size
          refine hs_call (i := 11) (d := some 168) rfl (by kernel_rfl) (by rfl) (by go_simp; first | done | exact ⟨rfl, rfl⟩ | with_reducible rfl) rfl ?_
          refine (cSy wc).mono ?_
          rintro _ wd ⟨rfl, hb_wd⟩
          have hS : (Below w8.heap.size w8) wd := hS.trans (hb_wd.mono hS.size)
          refine ⟨_, rfl, hS, ?_⟩
          simp only [nz]
          have tn := there_below tn hb_wd ln
          have ln := Nat.lt_of_lt_of_le ln hb_wd.size
          refine hs_t 12 156 (?_) rfl (by kernel_rfl) (by kernel_rfl) (by kernel_rfl) (by rfl) ?_ hS rfl ?_
          rotate_left
          · intro w' hw
            go_simp
            try with_reducible rfl
          simp only [nz]
          refine hs_t 13 169 (?_) rfl (by kernel_rfl) (by kernel_rfl) (by kernel_rfl) (by rfl) ?_ hS rfl ?_
          rotate_left
          · intro w' hw
            go_simp
            try with_reducible rfl
          simp only [nz]
          refine hs_t 14 170 (?_) rfl (by kernel_rfl) (by kernel_rfl) (by kernel_rfl) (by rfl) ?_ hS rfl ?_
          rotate_left
          · intro w' hw
            go_simp
            try with_reducible rfl
          simp only [nz]
          have hS2 : (Below w8.heap.size w8) (wd.setCells Z 0 (v8 tg)) := below_sets hZw (v8 tg) 0 _ hS
          have rtg : (wd.setCells Z 0 (v8 tg)).rangeAt Z 0 (v8 tg) := World.rangeAt_setCells_same wd Z 0 (v8 tg) (by rw [htg16]; exact tn)
          refine hs_store (i := 16) (w' := wd.setCells Z 0 (v8 tg)) rfl (by kernel_rfl) (by rfl) (ex_put (cs := (v8 tg).toArray) rfl rfl rfl (by simpa [htg16] using tn) (by simpa using htgi) (all_one htg1)) rfl hS2 ?_
          have sZ9 : Z < (wd.setCells Z 0 (v8 tg)).heap.size := by rw [size_sets]; exact ln
          have hS : (Below w8.heap.size w8) (wd.setCells Z 0 (v8 tg)) := hS2
          refine hs_t 17 26 (?_) rfl (by kernel_rfl) (by kernel_rfl) (by kernel_rfl) (by rfl) ?_ hS rfl ?_
          rotate_left
          · intro w' hw
            go_simp
            try with_reducible rfl
          simp only [nz]
          refine hs_done (by kernel_rfl) ?_
          go_wp2_with fail
          go_meet
          exact ⟨Z, rfl, rfl, hide (by rw [HW8.out]; exact ⟨hS, rtg, sZ9⟩)⟩
      case rest =>
        obtain ⟨Z, rfl, rfl, HM⟩ := hcut
        obtain ⟨hb16, rtg, sZ⟩ := HM.out
        have hdr : Below w15.heap.size w15 w15.drew := (Below.refl _ _).drew
        have hb16 := hdr.trans (hb16.mono hdr.size)
        replace rc := range_below rc hb16 sc
        replace hk := hk.below hb16
        replace hat := hat.below hb16
        replace r13 := range_below r13 hb16 sX13
        replace rt0 := range_below rt0 hb16 slb
        replace sc := Nat.lt_of_lt_of_le sc hb16.size
        replace sX13 := Nat.lt_of_lt_of_le sX13 hb16.size
        replace slb := Nat.lt_of_lt_of_le slb hb16.size
        replace B := B.trans (hb16.mono B.size)
        clear HM hdr hb16 cDy cMy cSy
        have cC2 := ccheck_any p ks c sb2 (some ⟨lb, lo, none⟩) cs l wc (HG.out.below B) hk hkne.out HS2.out hat (by omega)
        unfold ParsA at cC2
        simp only [hu.out] at cC2
        obtain ⟨pp3, hpp3⟩ : ∃ p, Hid (chkS (fun s => qcheckV (okS ks (bodyS s)) c.n l (mostI c.n)) c (strL sb2) = p) := ⟨_, hide rfl⟩
        have HW3 := HW2.out pp3.2 (by rw [hpp3.out])
        rw [hpp3.out] at cC2
        obtain ⟨e3, he3⟩ : ∃ e, pp3.2 = e := ⟨_, rfl⟩
        simp only [he3] at cC2 HW3
        clear he3
        have hcs := HCS wc r13
        go_upto_region 26 with fail
        try simp only [Act.put]
        refine pl_begin ?_
        refine pl_t 172 (?_) (by rfl) ?_ rfl ?_
        rotate_left
        · go_simp
          try with_reducible rfl
        simp only [nz]
        refine pl_t 173 (.agg u.toArray) (by rfl) (ex_mid rfl rfl rc Tryz.underlying23 rfl iu) rfl ?_
        simp only [nz]
        refine pl_t 174 (?_) (by rfl) ?_ rfl ?_
        rotate_left
        · go_simp
          try with_reducible rfl
        simp only [nz]
        refine pl_run (d := some 175) (v := .string sb2) (w' := wc) (by rfl) (ex_conv rfl rfl hcs) rfl ?_
        simp only [nz]
        refine pl_t 176 (?_) (by rfl) ?_ rfl ?_
        rotate_left
        · go_simp
          try with_reducible rfl
        simp only [nz]
        refine pl_call (d := some 177) (by rfl) (by go_simp; first | done | exact ⟨rfl, rfl⟩ | with_reducible rfl) rfl ?_
        refine (cC2).mono ?_
        rintro _ w17 ⟨z2, rfl, -, -, -, -, hb17⟩
        refine ⟨_, rfl, ?_⟩
        simp only [nz]
        replace rt0 := range_below rt0 hb17 slb
        replace rtg := range_below rtg hb17 sZ
        replace slb := Nat.lt_of_lt_of_le slb hb17.size
        replace sZ := Nat.lt_of_lt_of_le sZ hb17.size
        replace B := B.trans (hb17.mono B.size)
        refine pl_t 171 (?_) (by rfl) ?_ rfl ?_
        rotate_left
        · go_simp
          try with_reducible rfl
        simp only [nz]
        refine pl_t 178 (?_) (by rfl) ?_ rfl ?_
        rotate_left
        · go_simp
          try with_reducible rfl
        simp only [nz]
        refine pl_t 179 (?_) (by rfl) ?_ rfl ?_
        rotate_left
        · go_simp
          try with_reducible rfl
        simp only [nz]
        refine pl_t 21 (?_) (by rfl) ?_ rfl ?_
        rotate_left
        · go_simp
          try with_reducible rfl
        simp only [nz]
        refine pl_nil ?_
        clear rc hk hat r13 sc sX13 hcs cC2 hb17
        go_upto_region 27 with fail
        have hdr : Below w17.heap.size w17 w17.drew := (Below.refl _ _).drew
        replace rt0 := range_below rt0 hdr slb
        replace rtg := range_below rtg hdr sZ
        replace slb := Nat.lt_of_lt_of_le slb hdr.size
        replace sZ := Nat.lt_of_lt_of_le sZ hdr.size
        replace B := B.trans (hdr.mono B.size)
        have HG7 := HG.out.below B
        refine hs_begin (S := (Below w17.drew.heap.size w17.drew)) 14 rfl (by kernel_rfl) ?_
        obtain ⟨w8, hw8⟩ : ∃ W, w17.drew = W := ⟨_, rfl⟩
        rw [hw8] at rt0 rtg slb sZ B ⊢
        clear hdr hw8
        have hS : (Below w8.heap.size w8) w8 := Below.refl _ _
        by_cases e30 : e3 = 0
        · obtain rfl := e30
          have htt := HW3 rfl
          subst htt
          refine hs_t 0 180 (?_) rfl (by kernel_rfl) (by kernel_rfl) (by kernel_rfl) (by rfl) ?_ hS rfl ?_
          rotate_left
          · intro w' hw
            go_simp
            try with_reducible rfl
          simp only [nz]
          refine hs_t 1 181 (.bool false) rfl (by kernel_rfl) (by kernel_rfl) (by kernel_rfl) (by rfl) (fun w' hw => by go_simp) hS rfl ?_
          simp only [nz]
          refine hs_t 2 182 (?_) rfl (by kernel_rfl) (by kernel_rfl) (by kernel_rfl) (by rfl) ?_ hS rfl ?_
          rotate_left
          · intro w' hw
            go_simp
            try with_reducible rfl
          simp only [nz]
          refine hs_t 3 183 (.agg (v8 g0.t).toArray) rfl (by kernel_rfl) (by kernel_rfl) (by kernel_rfl) (by rfl) (fun w' hw => ex_mid rfl rfl (range_below rtg hw sZ) Tryz.underlying51 rfl htgi) hS rfl ?_
          simp only [nz]
          refine hs_t 4 184 (?_) rfl (by kernel_rfl) (by kernel_rfl) (by kernel_rfl) (by rfl) ?_ hS rfl ?_
          rotate_left
          · intro w' hw
            go_simp
            try with_reducible rfl
          simp only [nz]
          refine hs_t 5 185 (.pointer (some ⟨lb, lo, none⟩)) rfl (by kernel_rfl) (by kernel_rfl) (by kernel_rfl) (by rfl) (fun w' hw => by go_simp <;> (try simp [*])) hS rfl ?_
          simp only [nz]
          refine hs_t 6 186 (.pointer (some ⟨lb, lo + 1, none⟩)) rfl (by kernel_rfl) (by kernel_rfl) (by kernel_rfl) (by rfl) (fun w' hw => by go_simp <;> (try simp [*])) hS rfl ?_
          simp only [nz]
          refine hs_t 7 187 (.agg (v8 g0.t).toArray) rfl (by kernel_rfl) (by kernel_rfl) (by kernel_rfl) (by rfl) (fun w' hw => ex_mid rfl rfl (range_below rt0 hw slb) Tryz.underlying51 rfl htgi) hS rfl ?_
          simp only [nz]
          refine hs_t 8 188 (.bool true) rfl (by kernel_rfl) (by kernel_rfl) (by kernel_rfl) (by rfl) (fun w' hw => ex_bin rfl rfl rfl (by kernel_rfl) (eqT0 _)) hS rfl ?_
          simp only [nz]
          refine hs_t 9 189 (?_) rfl (by kernel_rfl) (by kernel_rfl) (by kernel_rfl) (by rfl) ?_ hS rfl ?_
          rotate_left
          · intro w' hw
            go_simp
            try with_reducible rfl
          simp only [nz]
          refine hs_t 10 190 (?_) rfl (by kernel_rfl) (by kernel_rfl) (by kernel_rfl) (by rfl) ?_ hS rfl ?_
          rotate_left
          · intro w' hw
            go_simp
            try with_reducible rfl
          simp only [nz]
          refine hs_call (i := 11) (d := some 191) rfl (by kernel_rfl) (by rfl) (by go_simp; first | done | exact ⟨rfl, rfl⟩ | with_reducible rfl) rfl ?_
          refine (Mk.lives_any w8).mono ?_
          rintro _ wL ⟨rfl, hbL⟩
          have hS : (Below w8.heap.size w8) wL := hS.trans (hbL.mono hS.size)
          refine ⟨_, rfl, hS, ?_⟩
          simp only [nz]
          refine hs_t 12 192 (?_) rfl (by kernel_rfl) (by kernel_rfl) (by kernel_rfl) (by rfl) ?_ hS rfl ?_
          rotate_left
          · intro w' hw
            go_simp
            try with_reducible rfl
          simp only [nz]
          refine hs_t 13 10 (?_) rfl (by kernel_rfl) (by kernel_rfl) (by kernel_rfl) (by rfl) ?_ hS rfl ?_
          rotate_left
          · intro w' hw
            go_simp
            try with_reducible rfl
          simp only [nz]
          refine hs_done (by kernel_rfl) ?_
          have HB := hide (B.trans (hS.mono B.size))
          go_wp2_with fail
          go_ret
          exact ⟨rfl, HB.out⟩
        · refine hs_t 0 180 (?_) rfl (by kernel_rfl) (by kernel_rfl) (by kernel_rfl) (by rfl) ?_ hS rfl ?_
          rotate_left
          · intro w' hw
            go_simp
            try with_reducible rfl
          simp only [nz]
          refine hs_t 1 181 (.bool true) rfl (by kernel_rfl) (by kernel_rfl) (by kernel_rfl) (by rfl) (fun w' hw => by go_simp <;> (try simp [*])) hS rfl ?_
          simp only [nz]
          refine hs_t 2 182 (?_) rfl (by kernel_rfl) (by kernel_rfl) (by kernel_rfl) (by rfl) ?_ hS rfl ?_
          rotate_left
          · intro w' hw
            go_simp
            try with_reducible rfl
          simp only [nz]
          refine hs_skip (i := 3) (d := some 183) rfl (by kernel_rfl) (by kernel_rfl) (by kernel_rfl) (by rfl) hS rfl ?_
          simp only [nz]
          refine hs_skip (i := 4) (d := some 184) rfl (by kernel_rfl) (by kernel_rfl) (by kernel_rfl) (by rfl) hS rfl ?_
          simp only [nz]
          refine hs_skip (i := 5) (d := some 185) rfl (by kernel_rfl) (by kernel_rfl) (by kernel_rfl) (by rfl) hS rfl ?_
          simp only [nz]
          refine hs_skip (i := 6) (d := some 186) rfl (by kernel_rfl) (by kernel_rfl) (by kernel_rfl) (by rfl) hS rfl ?_
          simp only [nz]
          refine hs_skip (i := 7) (d := some 187) rfl (by kernel_rfl) (by kernel_rfl) (by kernel_rfl) (by rfl) hS rfl ?_
          simp only [nz]
          refine hs_skip (i := 8) (d := some 188) rfl (by kernel_rfl) (by kernel_rfl) (by kernel_rfl) (by rfl) hS rfl ?_
          simp only [nz]
          refine hs_t 9 189 (?_) rfl (by kernel_rfl) (by kernel_rfl) (by kernel_rfl) (by rfl) ?_ hS rfl ?_
          rotate_left
          · intro w' hw
            go_simp
            try with_reducible rfl
          simp only [nz]
          refine hs_t 10 190 (?_) rfl (by kernel_rfl) (by kernel_rfl) (by kernel_rfl) (by rfl) ?_ hS rfl ?_
          rotate_left
          · intro w' hw
            go_simp
            try with_reducible rfl
          simp only [nz]
          refine hs_call (i := 11) (d := some 191) rfl (by kernel_rfl) (by rfl) (by go_simp; first | done | exact ⟨rfl, rfl⟩ | with_reducible rfl) rfl ?_
          refine (Mk.lives_any w8).mono ?_
          rintro _ wL ⟨rfl, hbL⟩
          have hS : (Below w8.heap.size w8) wL := hS.trans (hbL.mono hS.size)
          refine ⟨_, rfl, hS, ?_⟩
          simp only [nz]
          refine hs_t 12 192 (?_) rfl (by kernel_rfl) (by kernel_rfl) (by kernel_rfl) (by rfl) ?_ hS rfl ?_
          rotate_left
          · intro w' hw
            go_simp
            try with_reducible rfl
          simp only [nz]
          refine hs_t 13 10 (?_) rfl (by kernel_rfl) (by kernel_rfl) (by kernel_rfl) (by rfl) ?_ hS rfl ?_
          rotate_left
          · intro w' hw
            go_simp
            try with_reducible rfl
          simp only [nz]
          refine hs_done (by kernel_rfl) ?_
          have HB := hide (B.trans (hS.mono B.size))
          go_wp2_with fail
          go_ret
          exact ⟨rfl, HB.out⟩
end Go.Proofs.YtnfijfnnpbenfaaGreatDoor
