/- what a journal's areas hold; Open of a tape with power and no plan; a journal's Sure; the chapter's example; raddlelaw16.Light: are records not more than are looked at?; JournalAgain -/
import Derived.Test.YtfkchnjbbbhmjabXB10
import Derived.Test.YtfkchnjbbbhmjabXB6
namespace Go.Proofs.Ytfkchnjbbbhmjab.Ty
open Go.RowKit
open Tal
theorem turnN_put {t : Int} (h1 : 1 ≤ t) (h2 : t ≤ 1099511627776) : turnN (putL t) = t := by
  have h := numS_back t 1099511627776 (by omega) (by omega) h2 []
  rw [List.append_nil] at h
  unfold turnN
  rw [h]
  simp [doneE]
structure Bz (zss : List (List Int)) : Prop where
  b : ∀ z ∈ zss, ∀ c ∈ z, 0 ≤ c ∧ c < 256
  w : (zss.map fun z => 20 + z.length).sum ≤ 8000
theorem wt_mem {zss : List (List Int)} {z : List Int} (h : z ∈ zss) : 20 + z.length ≤ (zss.map fun z => 20 + z.length).sum := by
  induction zss with
  | nil => cases h
  | cons x zss ih =>
    simp only [List.map_cons, List.sum_cons]
    rcases List.mem_cons.1 h with rfl | h
    · omega
    · have := ih h; omega
theorem Bz.len {zss : List (List Int)} (h : Bz zss) {z : List Int} (hz : z ∈ zss) : z.length ≤ 8000 := by
  have := wt_mem hz
  have := h.w
  omega
theorem wt_take (zss : List (List Int)) (n : Nat) : ((zss.take n).map fun z => 20 + z.length).sum ≤ (zss.map fun z => 20 + z.length).sum := by
  induction zss generalizing n with
  | nil => simp
  | cons z zss ih =>
    cases n with
    | zero => simp
    | succ n =>
      simp only [List.take_succ_cons, List.map_cons, List.sum_cons]
      have := ih n
      omega
theorem Bz.take {zss : List (List Int)} (h : Bz zss) (n : Nat) : Bz (zss.take n) := ⟨fun z hz => h.b z (List.mem_of_mem_take hz), Nat.le_trans (wt_take zss n) h.w⟩
theorem gd_rec {z : List Int} (hb : ∀ c ∈ z, 0 ≤ c ∧ c < 256) (hl : z.length ≤ 8000) : Gd 68 z := ⟨hb, by omega, .inl rfl⟩
theorem gd_turn {t : Int} (h1 : 1 ≤ t) (h2 : t ≤ 1099511627776) : Gd 71 (putL t) := by
  refine ⟨putL_byte t (by omega), ?_, .inr ⟨rfl, ?_⟩⟩
  · have := putL_length t (by omega); omega
  · rw [turnN_put h1 h2]; omega
theorem Bz.gd {zss : List (List Int)} (h : Bz zss) : ∀ x ∈ recsF zss, Gd x.1 x.2 := by
  intro x hx
  obtain ⟨z, hz, rfl⟩ := List.mem_map.1 hx
  exact gd_rec (h.b z hz) (h.len hz)
theorem frame_size (k : Int) (z : List Int) (h : z.length ≤ 8000) : (frameL k (strOf z)).length ≤ z.length + 13 := by
  have hp := putL_length (((strOf z).size : Nat) : Int) (by rw [strOf_size]; omega)
  have hs := strOf_size z
  simp only [frameL, sumL, kindL, textL, List.length_cons, List.length_append, strL_length, List.length_nil]
  omega
theorem recs_size {zss : List (List Int)} (h : Bz zss) : (catF (recsF zss)).length ≤ (zss.map fun z => 20 + z.length).sum := by
  have key : ∀ zss : List (List Int), (∀ z ∈ zss, z.length ≤ 8000) → (catF (recsF zss)).length ≤ (zss.map fun z => 20 + z.length).sum := by
    intro zss
    induction zss with
    | nil => intro _; simp [recsF, catF]
    | cons z zss ih =>
      intro hl
      have h1 := frame_size 68 z (hl z (by simp))
      have h2 := ih (fun y hy => hl y (by simp [hy]))
      have e : recsF (z :: zss) = (68, z) :: recsF zss := rfl
      rw [e, catF_cons, List.length_append]
      simp only [List.map_cons, List.sum_cons]
      omega
  exact key zss (fun z hz => h.len hz)
theorem turn_size {t : Int} (h : t ≤ 1099511627776) : (frameL 71 (strOf (putL t))).length ≤ 22 := by
  have := putL_length t (by omega)
  have := frame_size 71 (putL t) (by omega)
  omega
theorem turnW_recs (zss : List (List Int)) (t : Int) : ((recsF zss).map Fr.of).foldl (fun t f => if f.k = 71 then max t (turnN f.zs) else t) t = t := by
  induction zss with
  | nil => rfl
  | cons z zss ih =>
    have e : recsF (z :: zss) = (68, z) :: recsF zss := rfl
    rw [e, List.map_cons, List.foldl_cons]
    have h : (Fr.of (68, z)).k = 68 := rfl
    rw [if_neg (by rw [h]; omega)]
    exact ih
theorem recsW_recs (zss : List (List Int)) : recsW ((recsF zss).map Fr.of) = zss := by
  induction zss with
  | nil => rfl
  | cons z zss ih =>
    have e : recsF (z :: zss) = (68, z) :: recsF zss := rfl
    have h : (Fr.of (68, z)).k = 68 := rfl
    rw [e, List.map_cons]
    unfold recsW at ih ⊢
    rw [List.filter_cons_of_pos (by simp [h]), List.map_cons, ih]
    rfl
theorem recsW_append (A B : List Fr) : recsW (A ++ B) = recsW A ++ recsW B := by unfold recsW; rw [List.filter_append, List.map_append]
theorem recsW_turn (t : Int) : recsW [Fr.of (turnF t)] = [] := by
  have h : (Fr.of (turnF t)).k = 71 := rfl
  unfold recsW
  rw [List.filter_cons_of_neg (by simp [h])]
  rfl
/-- records, then a turn -/
theorem end_turn {t : Int} (h1 : 1 ≤ t) (h2 : t ≤ 1099511627776) (zss : List (List Int)) : turnW ((recsF zss ++ [turnF t]).map Fr.of) = t ∧ recsW ((recsF zss ++ [turnF t]).map Fr.of) = zss := by
  have h : (Fr.of (turnF t)).k = 71 := rfl
  have hz : (Fr.of (turnF t)).zs = putL t := rfl
  rw [List.map_append]
  constructor
  · unfold turnW
    rw [List.foldl_append, turnW_recs]
    simp only [List.map_cons, List.map_nil, List.foldl_cons, List.foldl_nil]
    rw [if_pos h, hz, turnN_put h1 h2]
    omega
  · rw [recsW_append, recsW_recs]
    simp only [List.map_cons, List.map_nil]
    rw [recsW_turn, List.append_nil]
/-- a turn, then records -/
theorem begin_turn {t : Int} (h1 : 1 ≤ t) (h2 : t ≤ 1099511627776) (zss : List (List Int)) : turnW ((turnF t :: recsF zss).map Fr.of) = t ∧ recsW ((turnF t :: recsF zss).map Fr.of) = zss := by
  have h : (Fr.of (turnF t)).k = 71 := rfl
  have hz : (Fr.of (turnF t)).zs = putL t := rfl
  constructor
  · unfold turnW
    rw [List.map_cons, List.foldl_cons, if_pos h, hz, turnN_put h1 h2, turnW_recs]
    omega
  · have := recsW_append [Fr.of (turnF t)] ((recsF zss).map Fr.of)
    rw [recsW_turn, recsW_recs, List.nil_append] at this
    exact this
theorem read_ka {M : Mt} (h : M.on = true) (k : Bool) : M.read (ka k) = M.get k := by
  unfold Mt.read
  rw [if_pos (by unfold Mt.fault; rw [if_pos (ka_ok k), h]; rfl), ka_dec]
theorem sure_ka (M : Mt) (k : Bool) : M.sureOf (ka k) = (M.sr k : Int) := by cases k <;> rfl
/-- of two areas the one with the greater turn is the journal's -/
theorem found {M : Mt} (hon : M.on = true) (k : Bool) (ha : turnW (framesW (M.get (!k))) < turnW (framesW (M.get k))) (h0 : 0 ≤ turnW (framesW (M.get (!k)))) : findK M 2 = (ka k, turnW (framesW (M.get k)), recsW (framesW (M.get k))) := by
  have r0 : M.read ((0 : Nat) : Int) = M.get false := read_ka hon false
  have r1 : M.read ((1 : Nat) : Int) = M.get true := read_ka hon true
  have e : findK M 2 = stepF (stepF (1, 0, []) ((0 : Nat) : Int) (M.read ((0 : Nat) : Int))) ((1 : Nat) : Int) (M.read ((1 : Nat) : Int)) := rfl
  rw [e, r0, r1]
  cases k with
  | false =>
    simp only [Bool.not_false] at ha h0
    have e1 : stepF (1, 0, []) ((0 : Nat) : Int) (M.get false) = (0, turnW (framesW (M.get false)), recsW (framesW (M.get false))) := by
      unfold stepF; simp only; rw [if_pos (by omega)]; rfl
    rw [e1]
    unfold stepF
    simp only
    rw [if_neg (by omega)]
    rfl
  | true =>
    simp only [Bool.not_true] at ha h0
    unfold stepF
    by_cases q : 0 < turnW (framesW (M.get false))
    · simp only
      rw [if_pos q]
      simp only
      rw [if_pos ha]
      rfl
    · simp only
      rw [if_neg q]
      simp only
      rw [if_pos (by omega)]
      rfl
/-- a tape with power and no plan, whose journal is area k -/
structure Std (M : Mt) (F : Int) (k : Bool) (t : Int) (zss : List (List Int)) (x : List Int) (sx : Nat) (y : List Int) (sy : Nat) : Prop where
  st : As M 1048576 F 0 k x sx y sy
  pl : M.pl = false
  tx : turnW (framesW x) = t
  rx : recsW (framesW x) = zss
  ty : turnW (framesW y) < t
  ty0 : 0 ≤ turnW (framesW y)
  lx : x.length ≤ 9000
  ly : y.length ≤ 9000
theorem As.keep0 {M : Mt} {R F keep keep' : Int} {k : Bool} {x y : List Int} {sx sy : Nat} (h : As M R F keep k x sx y sy) (hp : M.pl = false) : As M R F keep' k x sx y sy :=
  ⟨h.on, h.room, h.fa, fun q => (by rw [hp] at q; cases q), h.x, h.sx, h.y, h.sy⟩
theorem open_std {M : Mt} {F : Int} {k : Bool} {t : Int} {zss : List (List Int)} {x y : List Int} {sx sy : Nat} (h : Std M F k t zss x sx y sy) (hz : Bz zss) (ht1 : 1 ≤ t) (ht2 : t < 1099511627776) :
    (findK M 2).2.2 = zss ∧ ∃ M', (∀ q p, openL M q p = ⟨0, M', ⟨q, p, ka (!k), t + 1, F⟩⟩) ∧ Std M' F (!k) (t + 1) zss (catF (recsF zss ++ [turnF (t + 1)])) (catF (recsF zss ++ [turnF (t + 1)])).length x sx := by
  have hf : findK M 2 = (ka k, t, zss) := by
    have := found h.st.on k (by rw [h.st.y, h.st.x, h.tx]; exact h.ty) (by rw [h.st.y]; exact h.ty0)
    rw [h.st.x, h.tx, h.rx] at this
    exact this
  have hsz := recs_size hz
  have hw := hz.w
  have hts := turn_size (t := t + 1) (by omega)
  have e1 : catF (recsF zss ++ [turnF (t + 1)]) = catF (recsF zss) ++ frameL 71 (strOf (putL (t + 1))) := by rw [catF_append]; simp [catF, turnF]
  have hlen : (catF (recsF zss ++ [turnF (t + 1)])).length ≤ 9000 := by rw [e1, List.length_append]; omega
  have hlx := h.lx
  have hfill := fill h.st.other (.inr h.pl) (t + 1) zss (by omega)
  rcases hfill with ⟨M', he, hA, hp⟩ | ⟨hp, _⟩
  rotate_left
  · rw [h.pl] at hp; cases hp
  have hgd : ∀ x ∈ recsF zss ++ [turnF (t + 1)], Gd x.1 x.2 := fun y hy => by
    rcases List.mem_append.1 hy with q | q
    · exact hz.gd y q
    · rw [List.mem_singleton.1 q]; exact gd_turn (by omega) (by omega)
  obtain ⟨et1, et2⟩ := end_turn (t := t + 1) (by omega) (by omega) zss
  have hfr := frames_all hgd
  refine ⟨by rw [hf], M', fun q p => ?_, ⟨hA, hp h.pl, by rw [hfr]; exact et1, by rw [hfr]; exact et2, by rw [h.tx]; omega, by rw [h.tx]; omega, hlen, hlx⟩⟩
  unfold openL
  rw [hf]
  simp only
  unfold layM
  have hjon : M.jon M.fa = true := by unfold Mt.jon; rw [h.st.on]; simp
  have htk : takesE (M.jon M.fa) (zR zss) = 0 := by
    unfold takesE
    rw [hjon, if_pos rfl, if_pos ?_]
    intro r hr
    obtain ⟨z, hz', rfl⟩ := List.mem_map.1 hr
    have := hz.len hz'
    simp only
    omega
  simp only
  rw [if_pos htk, if_neg (by omega), zR_zs, ka_not, he]
  unfold layW
  simp only
  rw [if_pos trivial, ka_not, h.st.fa]
end Go.Proofs.Ytfkchnjbbbhmjab.Ty
namespace Go.Proofs.Ytfkchnjbbbhmjab
open Go.RowKit
set_option maxRecDepth 100000 in
set_option maxHeartbeats 4000000 in
theorem jsure_any (j : Jv) (M : Mt) (A : Nat → Prop) (w : World) (h : JAt w j) (hT : Live A w j.p M) : Calls Try.prog 21 #[jptr j] w fun e w' => e = .returned (.bool (decide (M.sureOf j.ar = M.jbytes j.ar))) ∧ Below w.heap.size w w' := by
  obtain ⟨w8, hw8⟩ : ∃ w8, w.drew = w8 := ⟨_, rfl⟩
  have hB8 : Below w.heap.size w w8 := by rw [← hw8]; exact (Below.refl _ _).drew
  have cM := jmade_any j w8 (h.below hB8)
  have cS := live_sure (hT.below hB8) j.ar
  have cB := jbytes_any j M A w8 (h.below hB8) (hT.below hB8)
  have k0 : ∀ w', Below w8.heap.size w8 w' → w'.cell? ⟨j.q, 0, none⟩ = some (.pointer (some ⟨j.p, 0, none⟩)) := fun w' hw => (h.below (hB8.trans (hw.mono hB8.size))).cell 0 rfl
  have k1 : ∀ w', Below w8.heap.size w8 w' → w'.cell? ⟨j.q, 1, none⟩ = some (.int .i64 j.ar) := fun w' hw => (h.below (hB8.trans (hw.mono hB8.size))).cell 1 rfl
  have eS : (if j.ar = 0 then (M.sa : Int) else if j.ar = 1 then (M.sb : Int) else 0) = M.sureOf j.ar := rfl
  rw [eS] at cS
  obtain ⟨su, hsu⟩ : ∃ su, M.sureOf j.ar = su := ⟨_, rfl⟩
  obtain ⟨by', hby⟩ : ∃ by', M.jbytes j.ar = by' := ⟨_, rfl⟩
  rw [hsu] at cS
  rw [hby] at cB
  rw [hsu, hby]
  obtain ⟨bb, hbb'⟩ : ∃ bb, Hid (decide (su = by') = bb) := ⟨_, hide rfl⟩
  have hbb : (su == by') = bb := by rw [← hbb'.out]; rfl
  rw [hbb'.out]
  unfold jptr at *
  clear eS hsu hby h hT
  go_enter Try.func21, Try.ntmps21
  go_wp2_with fail
  refine hs_begin (S := (Below w8.heap.size w8)) 17 rfl (by kernel_rfl) ?_
  rw [hw8]
  clear hw8
  have hS : (Below w8.heap.size w8) w8 := Below.refl _ _
  refine hs_take (i := 0) (d := some 3) (v := ?_) rfl (by kernel_rfl) (by kernel_rfl) (by kernel_rfl) (by rfl) ?_ hS rfl ?_
  rotate_left
  · intro w' hw
    go_simp
    try with_reducible rfl
  simp only [Act.put, List.setIfInBounds_toArray, List.set_cons_zero, List.set_cons_succ]
  refine hs_call (i := 1) (d := some 4) rfl (by kernel_rfl) (by rfl) (by go_simp; first | done | exact ⟨rfl, rfl⟩ | with_reducible rfl) rfl ?_
  refine (cM).mono ?_
  rintro e' wq ⟨rfl, hx⟩
  have hS : Below w8.heap.size w8 wq := by rw [hx]; exact hS
  refine ⟨_, rfl, hS, ?_⟩
  simp only [Act.put, List.setIfInBounds_toArray, List.set_cons_zero, List.set_cons_succ]
  obtain rfl := hx.symm
  clear hx
  refine hs_take (i := 2) (d := some 5) (v := ?_) rfl (by kernel_rfl) (by kernel_rfl) (by kernel_rfl) (by rfl) ?_ hS rfl ?_
  rotate_left
  · intro w' hw
    go_simp
    try with_reducible rfl
  simp only [Act.put, List.setIfInBounds_toArray, List.set_cons_zero, List.set_cons_succ]
  refine hs_take (i := 3) (d := some 6) (v := ?_) rfl (by kernel_rfl) (by kernel_rfl) (by kernel_rfl) (by rfl) ?_ hS rfl ?_
  rotate_left
  · intro w' hw
    go_simp
    try with_reducible rfl
  simp only [Act.put, List.setIfInBounds_toArray, List.set_cons_zero, List.set_cons_succ]
  refine hs_take (i := 4) (d := some 7) (v := ?_) rfl (by kernel_rfl) (by kernel_rfl) (by kernel_rfl) (by rfl) ?_ hS rfl ?_
  rotate_left
  · intro w' hw
    go_simp
    try with_reducible rfl
  simp only [Act.put, List.setIfInBounds_toArray, List.set_cons_zero, List.set_cons_succ]
  refine hs_take (i := 5) (d := some 8) (v := ?_) rfl (by kernel_rfl) (by kernel_rfl) (by kernel_rfl) (by rfl) ?_ hS rfl ?_
  rotate_left
  · intro w' hw
    go_simp
    try with_reducible rfl
  simp only [Act.put, List.setIfInBounds_toArray, List.set_cons_zero, List.set_cons_succ]
  refine hs_take (i := 6) (d := some 9) (v := ?_) rfl (by kernel_rfl) (by kernel_rfl) (by kernel_rfl) (by rfl) ?_ hS rfl ?_
  rotate_left
  · intro w' hw
    have := k0 w' hw
    go_simp
    try with_reducible rfl
  simp only [Act.put, List.setIfInBounds_toArray, List.set_cons_zero, List.set_cons_succ]
  refine hs_take (i := 7) (d := some 10) (v := ?_) rfl (by kernel_rfl) (by kernel_rfl) (by kernel_rfl) (by rfl) ?_ hS rfl ?_
  rotate_left
  · intro w' hw
    go_simp
    try with_reducible rfl
  simp only [Act.put, List.setIfInBounds_toArray, List.set_cons_zero, List.set_cons_succ]
  refine hs_take (i := 8) (d := some 11) (v := ?_) rfl (by kernel_rfl) (by kernel_rfl) (by kernel_rfl) (by rfl) ?_ hS rfl ?_
  rotate_left
  · intro w' hw
    go_simp
    try with_reducible rfl
  simp only [Act.put, List.setIfInBounds_toArray, List.set_cons_zero, List.set_cons_succ]
  refine hs_take (i := 9) (d := some 12) (v := ?_) rfl (by kernel_rfl) (by kernel_rfl) (by kernel_rfl) (by rfl) ?_ hS rfl ?_
  rotate_left
  · intro w' hw
    go_simp
    try with_reducible rfl
  simp only [Act.put, List.setIfInBounds_toArray, List.set_cons_zero, List.set_cons_succ]
  refine hs_take (i := 10) (d := some 13) (v := ?_) rfl (by kernel_rfl) (by kernel_rfl) (by kernel_rfl) (by rfl) ?_ hS rfl ?_
  rotate_left
  · intro w' hw
    have := k1 w' hw
    go_simp
    try with_reducible rfl
  simp only [Act.put, List.setIfInBounds_toArray, List.set_cons_zero, List.set_cons_succ]
  refine hs_take (i := 12) (d := some 15) (v := ?_) rfl (by kernel_rfl) (by kernel_rfl) (by kernel_rfl) (by rfl) ?_ hS rfl ?_
  rotate_left
  · intro w' hw
    go_simp
    try with_reducible rfl
  simp only [Act.put, List.setIfInBounds_toArray, List.set_cons_zero, List.set_cons_succ]
  refine hs_call (i := 11) (d := some 14) rfl (by kernel_rfl) (by rfl) (by go_simp; first | done | exact ⟨rfl, rfl⟩ | with_reducible rfl) rfl ?_
  refine (cS).mono ?_
  rintro e' wq ⟨rfl, hx⟩
  have hS : Below w8.heap.size w8 wq := by rw [hx]; exact hS
  refine ⟨_, rfl, hS, ?_⟩
  simp only [Act.put, List.setIfInBounds_toArray, List.set_cons_zero, List.set_cons_succ]
  obtain rfl := hx.symm
  clear hx
  refine hs_call (i := 13) (d := some 16) rfl (by kernel_rfl) (by rfl) (by go_simp; first | done | exact ⟨rfl, rfl⟩ | with_reducible rfl) rfl ?_
  refine (cB).mono ?_
  rintro e' w9 ⟨rfl, hB9⟩
  have hS : Below w8.heap.size w8 w9 := hB9
  refine ⟨_, rfl, hS, ?_⟩
  simp only [Act.put, List.setIfInBounds_toArray, List.set_cons_zero, List.set_cons_succ]
  refine hs_take (i := 14) (d := some 17) (v := .bool bb) rfl (by kernel_rfl) (by kernel_rfl) (by kernel_rfl) (by rfl) (fun w' hw => by have := hbb; go_simp) hS rfl ?_
  simp only [Act.put, List.setIfInBounds_toArray, List.set_cons_zero, List.set_cons_succ]
  refine hs_take (i := 15) (d := some 18) (v := .bool bb) rfl (by kernel_rfl) (by kernel_rfl) (by kernel_rfl) (by rfl) (fun w' hw => by go_simp) hS rfl ?_
  simp only [Act.put, List.setIfInBounds_toArray, List.set_cons_zero, List.set_cons_succ]
  refine hs_take (i := 16) (d := some 2) (v := .bool bb) rfl (by kernel_rfl) (by kernel_rfl) (by kernel_rfl) (by rfl) (fun w' hw => by go_simp) hS rfl ?_
  simp only [Act.put, List.setIfInBounds_toArray, List.set_cons_zero, List.set_cons_succ]
  refine hs_done (by kernel_rfl) ?_
  go_wp2
  go_ret
  exact ⟨rfl, hB8.trans (hB9.mono hB8.size)⟩
end Go.Proofs.Ytfkchnjbbbhmjab
namespace Go.Proofs.Ytfkchnjbbbhmjab.Ty
open Go.RowKit
open Tal
def W0 : Mt := Mt.new 1000
def W1 : Mt := (openL W0 0 0).M
theorem open0 (q p : Nat) : openL W0 q p = ⟨0, W1, ⟨q, p, 0, 1, 0⟩⟩ := by kernel_rfl
theorem rec0 : (findK W0 2).2.2 = [] := by kernel_rfl
def W2 : Mt := (W1.jappend ⟨0, 0, 0, 1, 0⟩ [97]).2
def W3 : Mt := (W2.jsync ⟨0, 0, 0, 1, 0⟩).2
def W4 : Mt := (W3.jappend ⟨0, 0, 0, 1, 0⟩ [98]).2
def W5 : Mt := (W4.fail 0).2
def W6 : Mt := { W5 with on := true }
def W7 : Mt := (openL W6 0 0).M
theorem app2 (q p : Nat) : W1.jappend ⟨q, p, 0, 1, 0⟩ [97] = (0, W2) := by kernel_rfl
theorem syn3 (q p : Nat) : W2.jsync ⟨q, p, 0, 1, 0⟩ = (0, W3) := by kernel_rfl
theorem app4 (q p : Nat) : W3.jappend ⟨q, p, 0, 1, 0⟩ [98] = (0, W4) := by kernel_rfl
theorem sur4 : decide (W4.sureOf 0 = W4.jbytes 0) = false := by kernel_rfl
theorem fai5 : W4.fail 0 = (0, W5) := by kernel_rfl
theorem open6 (q p : Nat) : openL W6 q p = ⟨0, W7, ⟨q, p, 1, 2, 1⟩⟩ := by kernel_rfl
theorem rec6 : (findK W6 2).2.2 = [[97]] := by kernel_rfl
theorem on6 : W6.on = true := by kernel_rfl
theorem rm6 : W6.room ≤ 100000000 := by
  have : W6.room = 1000 := by kernel_rfl
  omega
theorem a_str : strOf [97] = ⟨#[97]⟩ := by rfl
set_option maxRecDepth 100000 in
set_option maxHeartbeats 8000000 in
theorem lives16_any (w : World) : Calls Try.prog 8 #[] w fun e w' => e = .returned (.bool true) ∧ Below w.heap.size w w' := by
  have c1 := live_new 1000 w (by omega) (by omega)
  go_enter Try.func8, Try.ntmps8
  go_wp2_with fail
  refine c1.mono ?_
  rintro e w1 ⟨rfl, hB1, hT1⟩
  clear c1
  have lt0 : ∀ b, (fun b => b < w.heap.size) b → b < w1.heap.size := fun b hb => Nat.lt_of_lt_of_le hb hB1.size
  obtain ⟨p, hp⟩ : ∃ p, Hid (w.heap.size = p) := ⟨_, hide rfl⟩
  rw [hp.out] at hT1 lt0 ⊢
  have cO := open_on p W0 (fun b => b < p) w1 hT1 lt0 rfl (by show (1000 : Int) ≤ _; omega)
  simp only [open0, rec0] at cO
  go_wp2_with fail
  refine cO.mono ?_
  rintro e w2 ⟨q, A2, hOp⟩
  clear cO hT1
  obtain ⟨h2up, h2q, h2lt, -, h2off, -, hT2, hsaid⟩ := hOp
  simp only at hT2 hsaid
  rcases hsaid with ⟨h, -⟩ | ⟨-, hJ2, v, rs, rfl, hW, hzs, -⟩
  · exact absurd rfl h
  obtain rfl : rs = [] := by simpa using hzs
  obtain ⟨ra, rc, rfl, -, -, -⟩ := hW.recs (by simp)
  clear hW hzs lt0
  have hB2 : Below p w w2 := by
    rw [← hp.out]
    exact hB1.trans (h2off.below hB1.size (fun b hb q => q (by rw [← hp.out]; exact hb)))
  clear h2off hB1
  have cT := jturn_any _ w2 hJ2
  unfold jptr at cT
  simp only at cT
  go_wp2_with fail
  refine cT.mono ?_
  rintro e w2' ⟨rfl, hx⟩
  obtain rfl := hx.symm
  clear cT hx
  have kc := Lib.run_convert_bytes_const (P := Try.prog) w2 34 5 #[.int .u8 97] 1 1 Try.underlying34 Try.underlying5
  have hBa : Below w2.heap.size w2 (w2.alloc (.cells #[.int .u8 97] 5 (1, 2))) := (Below.refl _ _).alloc (Nat.le_refl _) _
  have hRa : RowAt (w2.alloc (.cells #[.int .u8 97] 5 (1, 2))) (some ⟨w2.heap.size, 0, none⟩) [97] := mark_row w2 [97] (1, 2) (by decide) (by decide) _ rfl
  have c3 := jappend_any _ W1 A2 _ 1 [97] _ (hJ2.below hBa) (hT2.below hBa) (fun b hb => Nat.lt_of_lt_of_le (h2lt b hb) hBa.size) h2q hRa
  rw [app2] at c3
  unfold jptr at c3
  simp only at c3
  go_wp2_with fail
  refine c3.mono ?_
  rintro e w3 ⟨rfl, hT3, hJ3, hO3⟩
  clear c3 kc hRa
  have hB3 : Below p w w3 := (hB2.trans (hBa.mono (by have := hB2.size; rw [hp.out] at this; exact this))).trans (hO3.below (by have := hB2.size; rw [hp.out] at this; have := hBa.size; omega) (fun b hb q => q (h2up b hb)))
  have lt3 : ∀ b, A2 b → b < w3.heap.size := fun b hb => Nat.lt_of_lt_of_le (h2lt b hb) (Nat.le_trans hBa.size hO3.size)
  clear hO3 hBa hT2 hJ2 hB2 h2lt
  have c4 := jsync_any _ W2 A2 w3 hJ3 hT3 lt3 h2q
  rw [syn3] at c4
  unfold jptr at c4
  simp only at c4
  go_wp2_with fail
  refine c4.mono ?_
  rintro e w4 ⟨rfl, hT4, hJ4, hO4⟩
  have hB4 : Below p w w4 := hB3.trans (hO4.below (by have := hB3.size; rw [hp.out] at this; exact this) (fun b hb q => q (h2up b hb)))
  have lt4 : ∀ b, A2 b → b < w4.heap.size := fun b hb => Nat.lt_of_lt_of_le (lt3 b hb) hO4.size
  clear c4 hO4 hT3 hJ3 hB3 lt3
  have kc := Lib.run_convert_bytes_const (P := Try.prog) w4 34 5 #[.int .u8 98] 1 1 Try.underlying34 Try.underlying5
  have hBa : Below w4.heap.size w4 (w4.alloc (.cells #[.int .u8 98] 5 (1, 2))) := (Below.refl _ _).alloc (Nat.le_refl _) _
  have hRa : RowAt (w4.alloc (.cells #[.int .u8 98] 5 (1, 2))) (some ⟨w4.heap.size, 0, none⟩) [98] := mark_row w4 [98] (1, 2) (by decide) (by decide) _ rfl
  have c3 := jappend_any _ W3 A2 _ 1 [98] _ (hJ4.below hBa) (hT4.below hBa) (fun b hb => Nat.lt_of_lt_of_le (lt4 b hb) hBa.size) h2q hRa
  rw [app4] at c3
  unfold jptr at c3
  simp only at c3
  go_wp2_with fail
  refine c3.mono ?_
  rintro e w5 ⟨rfl, hT5, hJ5, hO5⟩
  clear c3 kc hRa
  have hB5 : Below p w w5 := (hB4.trans (hBa.mono (by have := hB4.size; rw [hp.out] at this; exact this))).trans (hO5.below (by have := hB4.size; rw [hp.out] at this; have := hBa.size; omega) (fun b hb q => q (h2up b hb)))
  have lt5 : ∀ b, A2 b → b < w5.heap.size := fun b hb => Nat.lt_of_lt_of_le (lt4 b hb) (Nat.le_trans hBa.size hO5.size)
  clear hO5 hBa hT4 hJ4 hB4 lt4
  have c5 := jsure_any _ W4 A2 w5 hJ5 hT5
  simp only at c5
  rw [sur4] at c5
  unfold jptr at c5
  simp only at c5
  go_wp2_with fail
  refine c5.mono ?_
  rintro e w6 ⟨rfl, hBs⟩
  have hT6 := hT5.below hBs
  have hB6 : Below p w w6 := hB5.trans (hBs.mono (by have := hB5.size; rw [hp.out] at this; exact this))
  have lt6 : ∀ b, A2 b → b < w6.heap.size := fun b hb => Nat.lt_of_lt_of_le (lt5 b hb) hBs.size
  clear c5 hBs hT5 hJ5 hB5 lt5
  have c7 := live_fail hT6 lt6 0
  rw [fai5] at c7
  go_wp2_with fail
  refine c7.mono ?_
  rintro e w7 ⟨rfl, hT7, hO7⟩
  have hB7 : Below p w w7 := hB6.trans (hO7.below (by have := hB6.size; rw [hp.out] at this; exact this) (fun b hb q => q (h2up b hb)))
  have lt7 : ∀ b, A2 b → b < w7.heap.size := fun b hb => Nat.lt_of_lt_of_le (lt6 b hb) hO7.size
  clear c7 hO7 hT6 hB6 lt6
  have c8 := live_power hT7 lt7
  go_wp2_with fail
  refine c8.mono ?_
  rintro e w8 ⟨rfl, hT8, hO8⟩
  have hB8 : Below p w w8 := hB7.trans (hO8.below (by have := hB7.size; rw [hp.out] at this; exact this) (fun b hb q => q (h2up b hb)))
  have lt8 : ∀ b, A2 b → b < w8.heap.size := fun b hb => Nat.lt_of_lt_of_le (lt7 b hb) hO8.size
  have hT8 : Live A2 w8 p W6 := hT8
  clear c8 hO8 hT7 hB7 lt7
  have cO := open_on p W6 A2 w8 hT8 lt8 on6 rm6
  simp only [open6, rec6] at cO
  go_wp2_with fail
  refine cO.mono ?_
  rintro e w9 ⟨q9, A9, hOp⟩
  clear cO hT8
  obtain ⟨-, -, -, -, h9off, -, -, hsaid⟩ := hOp
  simp only at hsaid
  rcases hsaid with ⟨h, -⟩ | ⟨-, hJ9, v, rs, rfl, hW, hzs, -⟩
  · exact absurd rfl h
  obtain ⟨r, rfl⟩ : ∃ r, rs = [r] := by
    have hl : rs.length = 1 := by simpa using congrArg List.length hzs
    exact List.length_eq_one_iff.1 hl
  obtain ⟨xa, xc, xz⟩ := r
  simp only [List.map_cons, List.map_nil, List.cons.injEq, and_true] at hzs
  subst hzs
  obtain ⟨ra9, rc9, rfl, hR9, -, -⟩ := hW.recs (by simp)
  obtain ⟨b9, o9, hA9, -, hc9, hr9⟩ := hR9.get 0 (by simp)
  subst hA9
  simp only [List.getElem_cons_zero, Nat.add_zero] at hc9 hr9
  have hB9 : Below p w w9 := hB8.trans (h9off.below (by have := hB8.size; rw [hp.out] at this; exact this) (fun b hb q => q (h2up b hb)))
  have kr : (convert 34 9 (.slice xa 1 xc)).run Try.prog w9 = .ok (.string ⟨#[97]⟩) w9 := _root_.Go.Proofs.Ytfkchnjbbbhmjab.row_str (cap := xc) hr9
  have cT := jturn_any _ w9 hJ9
  unfold jptr at cT
  simp only at cT
  clear hW hR9 hr9 h9off hJ9 hB8 lt8
  go_wp2_with fail
  refine cT.mono ?_
  rintro e w10 ⟨rfl, hx⟩
  obtain rfl := hx.symm
  clear cT hx
  go_wp2_with fail
  go_ret
  exact ⟨rfl, by rw [hp.out]; exact hB9⟩
end Go.Proofs.Ytfkchnjbbbhmjab.Ty
namespace Go.Proofs.Ytfkchnjbbbhmjab.Ty
open Go.RowKit
open Tal
def addTo (n m : Int) : Int := if n + m ≤ 8000 then n + m else 8001
set_option maxRecDepth 100000 in
set_option maxHeartbeats 400000 in
theorem addCap_any (n m : Int) (w : World) (h0 : 0 ≤ n) (h1 : n ≤ 8001) (h2 : 0 ≤ m) (h3 : m ≤ 9223372036854775807) :
    Calls Try.prog 23 #[.int .i64 n, .int .i64 m, .int .i64 8000] w fun e w' => e = .returned (.int .i64 (addTo n m)) ∧ w' = w := by
  by_cases c1 : 8000 < n
  · have HA : Hid (addTo n m = 8001) := by show _ = _; unfold addTo; rw [if_neg (by omega)]
    rw [HA.out]
    go_enter Try.func23, Try.ntmps23
    go_wp2
    go_ret
    exact ⟨rfl, rfl⟩
  · by_cases c2 : 8000 < m
    · have HA : Hid (addTo n m = 8001) := by show _ = _; unfold addTo; rw [if_neg (by omega)]
      rw [HA.out]
      go_enter Try.func23, Try.ntmps23
      go_wp2
      go_ret
      exact ⟨rfl, rfl⟩
    · by_cases c3 : 8000 - m < n
      · have HA : Hid (addTo n m = 8001) := by show _ = _; unfold addTo; rw [if_neg (by omega)]
        rw [HA.out]
        go_enter Try.func23, Try.ntmps23
        go_wp2
        go_ret
        exact ⟨rfl, rfl⟩
      · have HA : Hid (addTo n m = n + m) := by show _ = _; unfold addTo; rw [if_pos (by omega)]
        rw [HA.out]
        go_enter Try.func23, Try.ntmps23
        go_wp2
        go_ret
        exact ⟨rfl, rfl⟩
def wtR (ys : List Rc) : Nat := (ys.map fun y => 20 + y.zs.length).sum
theorem wtR_take (ys : List Rc) (k : Nat) (hk : k < ys.length) : wtR (ys.take (k + 1)) = wtR (ys.take k) + (20 + ys[k].zs.length) := by
  unfold wtR
  rw [List.take_succ_eq_append_getElem hk]
  simp only [List.map_append, List.map_cons, List.map_nil, List.sum_append, List.sum_cons, List.sum_nil]
  omega
set_option maxRecDepth 100000 in
set_option maxHeartbeats 20000000 in
theorem Light16_any (a : Option Addr) (cap : Nat) (ys : List Rc) (w : World) (h : Recs w a ys) :
    Calls Try.prog 7 #[.slice a ys.length cap] w fun e w' => (e = .returned (.bool false) ∧ Below w.heap.size w w') ∨ (e = .returned (.bool true) ∧ Below w.heap.size w w' ∧ wtR ys ≤ 8000) := by
  have hl := h.le
  go_enter Try.func7, Try.ntmps7
  go_wp2
  go_loopw [3, 4] (fun nv iv wr => ∃ (k : Nat) (n : Int), k ≤ ys.length ∧ iv = .int .i64 (k : Int) ∧ nv = .int .i64 n ∧ 0 ≤ n ∧ n ≤ 8001 ∧ Hid (n ≤ 8000 → n = wtR (ys.take k)) ∧ Below w.heap.size w wr) (fun _ iv _ => ys.length - (intOf iv).toNat)
  case atStart => exact ⟨0, 0, by omega, rfl, rfl, by omega, by omega, hide (fun _ => by simp [wtR]), Below.refl _ _⟩
  case round =>
    obtain ⟨k, n, hk, rfl, rfl, h0, h1, HL, hbel⟩ := hrel
    obtain ⟨wo, rfl⟩ : ∃ wo, wo = wr := ⟨_, rfl⟩
    by_cases hlt : k < ys.length
    · by_cases hn : n ≤ 8000
      · obtain ⟨rb, off, rfl, hrb, hre, hry⟩ := h.get k hlt
        have HT := hide (wtR_take ys k hlt)
        have hzl := hry.1
        clear hry
        obtain ⟨y, hy⟩ : ∃ y, Hid (ys[k] = y) := ⟨_, hide rfl⟩
        rw [hy.out] at hre HT hzl
        unfold maxLen at hzl
        have hre2 : w.cell? ⟨rb, off + k, none⟩ = some (.slice y.a y.zs.length y.cap) := hre
        clear hre hy
        have k1 : (k : Int) < ys.length := by omega
        have HA2 : Hid (addTo n 20 ≤ 8001 ∧ 0 ≤ addTo n 20 ∧ (addTo n 20 ≤ 8000 → addTo n 20 = wtR (ys.take k) + 20)) := by
          unfold addTo
          have := HL.out hn
          split
          · refine ⟨by omega, by omega, fun _ => by omega⟩
          · refine ⟨by omega, by omega, fun h => by omega⟩
        have ca := fun w0 => addCap_any n 20 w0 h0 h1 (by omega) (by omega)
        obtain ⟨p2, hp2⟩ : ∃ p, Hid (addTo n 20 = p) := ⟨_, hide rfl⟩
        simp only [hp2.out] at ca
        rw [hp2.out] at HA2
        have cb := fun w0 => addCap_any p2 (y.zs.length : Int) w0 HA2.out.2.1 HA2.out.1 (by omega) (by omega)
        have HA3 : Hid (addTo p2 y.zs.length ≤ 8001 ∧ 0 ≤ addTo p2 y.zs.length ∧ (addTo p2 y.zs.length ≤ 8000 → addTo p2 y.zs.length = wtR (ys.take (k + 1)))) := by
          unfold addTo
          have := HA2.out
          have := HT.out
          split
          · refine ⟨by omega, by omega, fun _ => by have := HA2.out.2.2 (by omega); omega⟩
          · refine ⟨by omega, by omega, fun h => by omega⟩
        obtain ⟨p3, hp3⟩ : ∃ p, Hid (addTo p2 y.zs.length = p) := ⟨_, hide rfl⟩
        simp only [hp3.out] at cb
        rw [hp3.out] at HA3
        clear hp2 hp3 HT HA2
        go_wp2_with fail
        obtain ⟨w5, hw5⟩ : ∃ w5, wo.drew = w5 := ⟨_, rfl⟩
        have hB5 : Below w.heap.size w w5 := by rw [← hw5]; exact hbel.drew
        have c2 : ∀ w', Below w5.heap.size w5 w' → w'.cell? ⟨rb, off + k, none⟩ = some (.slice y.a y.zs.length y.cap) := fun w' hw' => ((hB5.trans (hw'.mono hB5.size)).cell (p := ⟨rb, off + k, none⟩) hrb).trans hre2
        refine hs_begin (S := (Below w5.heap.size w5)) 9 rfl (by kernel_rfl) ?_
        rw [hw5]
        clear hw5
        have hS : (Below w5.heap.size w5) w5 := Below.refl _ _
        refine hs_take (i := 0) (d := some 15) (v := ?_) rfl (by kernel_rfl) (by kernel_rfl) (by kernel_rfl) (by rfl) ?_ hS rfl ?_
        rotate_left
        · intro w' hw
          go_simp
          try with_reducible rfl
        simp only [Act.put, List.setIfInBounds_toArray, List.set_cons_zero, List.set_cons_succ]
        refine hs_take (i := 2) (d := some 17) (v := ?_) rfl (by kernel_rfl) (by kernel_rfl) (by kernel_rfl) (by rfl) ?_ hS rfl ?_
        rotate_left
        · intro w' hw
          go_simp
          try with_reducible rfl
        simp only [Act.put, List.setIfInBounds_toArray, List.set_cons_zero, List.set_cons_succ]
        refine hs_take (i := 3) (d := some 18) (v := ?_) rfl (by kernel_rfl) (by kernel_rfl) (by kernel_rfl) (by rfl) ?_ hS rfl ?_
        rotate_left
        · intro w' hw
          go_simp
          try with_reducible rfl
        simp only [Act.put, List.setIfInBounds_toArray, List.set_cons_zero, List.set_cons_succ]
        refine hs_take (i := 4) (d := some 19) (v := ?_) rfl (by kernel_rfl) (by kernel_rfl) (by kernel_rfl) (by rfl) ?_ hS rfl ?_
        rotate_left
        · intro w' hw
          go_simp
          try with_reducible rfl
        simp only [Act.put, List.setIfInBounds_toArray, List.set_cons_zero, List.set_cons_succ]
        refine hs_take (i := 5) (d := some 20) (v := ?_) rfl (by kernel_rfl) (by kernel_rfl) (by kernel_rfl) (by rfl) ?_ hS rfl ?_
        rotate_left
        · intro w' hw
          have hc := c2 w' hw
          go_simp
          try with_reducible rfl
        simp only [Act.put, List.setIfInBounds_toArray, List.set_cons_zero, List.set_cons_succ]
        refine hs_take (i := 6) (d := some 21) (v := ?_) rfl (by kernel_rfl) (by kernel_rfl) (by kernel_rfl) (by rfl) ?_ hS rfl ?_
        rotate_left
        · intro w' hw
          go_simp
          try with_reducible rfl
        simp only [Act.put, List.setIfInBounds_toArray, List.set_cons_zero, List.set_cons_succ]
        refine hs_call (i := 1) (d := some 16) rfl (by kernel_rfl) (by rfl) (by go_simp; first | done | exact ⟨rfl, rfl⟩ | with_reducible rfl) rfl ?_
        refine (ca w5).mono ?_
        rintro e' w6 ⟨rfl, hx⟩
        have hS : (Below w5.heap.size w5) w6 := by rw [hx]; exact hS
        refine ⟨_, rfl, hS, ?_⟩
        simp only [Act.put, List.setIfInBounds_toArray, List.set_cons_zero, List.set_cons_succ]
        obtain rfl := hx.symm
        clear hx
        refine hs_call (i := 7) (d := some 22) rfl (by kernel_rfl) (by rfl) (by go_simp; first | done | exact ⟨rfl, rfl⟩ | with_reducible rfl) rfl ?_
        refine (cb w5).mono ?_
        rintro e' w7 ⟨rfl, hx⟩
        have hS : (Below w5.heap.size w5) w7 := by rw [hx]; exact hS
        refine ⟨_, rfl, hS, ?_⟩
        simp only [Act.put, List.setIfInBounds_toArray, List.set_cons_zero, List.set_cons_succ]
        obtain rfl := hx.symm
        clear hx
        refine hs_take (i := 8) (d := some 3) (v := ?_) rfl (by kernel_rfl) (by kernel_rfl) (by kernel_rfl) (by rfl) ?_ hS rfl ?_
        rotate_left
        · intro w' hw
          go_simp
          try with_reducible rfl
        simp only [Act.put, List.setIfInBounds_toArray, List.set_cons_zero, List.set_cons_succ]
        refine hs_done (by kernel_rfl) ?_
        go_wp2
        go_roundw
        case rel => exact ⟨k + 1, p3, by omega, by go_num, rfl, HA3.out.2.1, HA3.out.1, hide HA3.out.2.2, hB5⟩
        case measure => simp [intOf]; omega
      · go_wp2
        go_ret
        exact .inl ⟨rfl, hbel⟩
    · have hk' : k = ys.length := by omega
      have HF : Hid (n ≤ 8000 → wtR ys ≤ 8000) := by
        intro hn
        have := HL.out hn
        rw [hk', List.take_length] at this
        omega
      have k1 : ¬ (k : Int) < ys.length := by omega
      clear HL
      by_cases hn : n ≤ 8000
      · go_wp2
        go_ret
        exact .inr ⟨rfl, hbel, HF.out hn⟩
      · go_wp2
        go_ret
        exact .inl ⟨rfl, hbel⟩
theorem wtR_len (ys : List Rc) : ys.length * 20 ≤ wtR ys := by
  induction ys with
  | nil => simp [wtR]
  | cons y ys ih => simp only [wtR, List.map_cons, List.sum_cons, List.length_cons] at *; omega
theorem wtR_mem {ys : List Rc} {y : Rc} (h : y ∈ ys) : 20 + y.zs.length ≤ wtR ys := by
  induction ys with
  | nil => cases h
  | cons x ys ih =>
    simp only [wtR, List.map_cons, List.sum_cons] at *
    rcases List.mem_cons.1 h with rfl | h
    · omega
    · have := ih h; omega
end Go.Proofs.Ytfkchnjbbbhmjab.Ty
namespace Go.Proofs.Ytfkchnjbbbhmjab.Ty
open Go.RowKit
open Tal
def V0 : Mt := Mt.new 1048576
def V1 : Mt := (openL V0 0 0).M
theorem vopen0 (q p : Nat) : openL V0 q p = ⟨0, V1, ⟨q, p, 0, 1, 0⟩⟩ := by kernel_rfl
theorem vrec0 : (findK V0 2).2.2 = [] := by kernel_rfl
theorem vas1 : As V1 1048576 0 0 false (catF (turnF 1 :: recsF [])) (catF (turnF 1 :: recsF [])).length [] 0 :=
  ⟨by kernel_rfl, by kernel_rfl, by kernel_rfl, fun q => (by have : V1.pl = false := by kernel_rfl
                                                             rw [this] at q; cases q), by kernel_rfl, by kernel_rfl, by kernel_rfl, by kernel_rfl⟩
theorem vpl1 : V1.pl = false := by kernel_rfl
theorem Recs.below' {w w' : World} {a : Option Addr} {rs : List Rc} (h : Recs w a rs) (hb : Below w.heap.size w w') : Recs w' a rs := by
  refine ⟨h.le, ?_, fun x hx => (h.rows x hx).below hb⟩
  rcases h.at0 with q | ⟨b, off, q1, q2, q3⟩
  · exact .inl q
  · exact .inr ⟨b, off, q1, Nat.lt_of_lt_of_le q2 hb.size, range_below q3 hb q2⟩
theorem recs_of {w : World} {a : Option Addr} {ys : List Rc} (hl : ys.length ≤ 100000000) (h : RowOf Rc.cells w a ys) (hk : ∀ y ∈ ys, y.ok w) : Recs w a ys := by
  refine ⟨hl, ?_, fun x hx => (hk x hx).row⟩
  rcases h with q | ⟨b, off, q1, q2, q3⟩
  · exact .inl q
  · exact .inr ⟨b, off, q1, q2, by rw [← flat_val]; exact q3⟩
theorem bz_of {w : World} {ys : List Rc} (hk : ∀ y ∈ ys, RowAt w y.a y.zs) (hw : wtR ys ≤ 8000) : Bz (ys.map Rc.zs) := by
  refine ⟨fun z hz => ?_, ?_⟩
  · obtain ⟨y, hy, rfl⟩ := List.mem_map.1 hz
    exact (hk y hy).2.1
  · rw [List.map_map]
    exact hw
/-- a record is appended to a journal with power and no plan -/
theorem app_std {M : Mt} {F keep : Int} {k : Bool} {K : List (Int × List Int)} {sx : Nat} {y : List Int} {sy : Nat} (h : As M 1048576 F keep k (catF K) sx y sy) (z : List Int) (hz : z.length ≤ 8000) (hs : (catF K).length + y.length ≤ 100000) (q p : Nat) (tu : Int) :
    Came M (M.jappend ⟨q, p, ka k, tu, F⟩ z) 1048576 F keep k (catF K) sx (catF (K ++ [(68, z)])) sx y sy := by
  have e2 : catF (K ++ [(68, z)]) = catF K ++ frameL 68 (strOf z) := by rw [catF_append]; simp [catF]
  have hj : M.jon F = true := by unfold Mt.jon; rw [h.on, h.fa]; simp
  have hfs := frame_size 68 z hz
  unfold Mt.jappend
  simp only
  rw [hj, if_pos rfl, if_pos (by omega), e2]
  exact h.append _ (by rw [List.length_append]; push_cast; omega)
theorem recsF_snoc (zss : List (List Int)) (n : Nat) (h : n < zss.length) : turnF 1 :: recsF (zss.take (n + 1)) = (turnF 1 :: recsF (zss.take n)) ++ [(68, zss[n])] := by
  rw [List.take_succ_eq_append_getElem h]
  unfold recsF
  rw [List.map_append, List.cons_append]
  rfl
theorem first_len {zss : List (List Int)} (h : Bz zss) (n : Nat) : (catF (turnF 1 :: recsF (zss.take n))).length ≤ 8100 := by
  have h1 := recs_size (h.take n)
  have h2 := (h.take n).w
  have h3 := turn_size (t := 1) (by omega)
  rw [catF_cons, List.length_append]
  have e : frameL (turnF 1).1 (strOf (turnF 1).2) = frameL 71 (strOf (putL 1)) := rfl
  rw [e]
  omega
theorem std_first {M : Mt} {F : Int} {zss : List (List Int)} {sx : Nat} (h : As M 1048576 F 0 false (catF (turnF 1 :: recsF zss)) sx [] 0) (hp : M.pl = false) (hz : Bz zss) : Std M F false 1 zss (catF (turnF 1 :: recsF zss)) sx [] 0 := by
  have hgd : ∀ x ∈ turnF 1 :: recsF zss, Gd x.1 x.2 := fun y hy => by
    rcases List.mem_cons.1 hy with rfl | q
    · exact gd_turn (t := 1) (by omega) (by omega)
    · exact hz.gd y q
  have hfr := frames_all hgd
  obtain ⟨b1, b2⟩ := begin_turn (t := 1) (by omega) (by omega) zss
  have hl := first_len hz zss.length
  rw [List.take_length] at hl
  exact ⟨h, hp, by rw [hfr]; exact b1, by rw [hfr]; exact b2, by rw [framesW_nil]; simp [turnW], by rw [framesW_nil]; simp [turnW], by omega, by simp⟩
theorem six_of (z : Int) : ∃ n : Nat, n < 6 ∧ wrap64 ((IntKind.u64.wrap z).tmod 6) = (n : Int) := by
  rw [IntKind.wrap_u64]
  have h0 : 0 ≤ z % 18446744073709551616 := Int.emod_nonneg _ (by omega)
  rw [Int.tmod_eq_emod_of_nonneg h0]
  refine ⟨((z % 18446744073709551616) % 6).toNat, by omega, ?_⟩
  unfold wrap64
  omega
set_option maxRecDepth 100000 in
set_option maxHeartbeats 8000000 in
theorem again_walk (al : Option Addr) (cl : Nat) (ys : List Rc) (times : Int) (hcl : ys.length ≤ maxLen) (w : World) (hok : ∀ y ∈ ys, y.ok w) (hrow : RowOf Rc.cells w al ys) :
    Calls Try.prog 6 #[.slice al ys.length cl, .int .i64 times] w fun e w' => e = .returned (.bool true) ∧ Below w.heap.size w w' := by
  unfold maxLen at hcl
  by_cases hbig : 100 < ys.length
  · have hbI : (100 : Int) < (ys.length : Int) := by omega
    have cV := lives16_any w
    go_enter Try.func6, Try.ntmps6
    go_wp2_with fail
    refine cV.mono ?_
    rintro e w1 ⟨rfl, hB1⟩
    clear cV
    go_wp2
    go_ret
    exact ⟨rfl, hB1⟩
  have hnI : ¬ (100 : Int) < (ys.length : Int) := by omega
  have hR := recs_of (by omega) hrow hok
  have cL := Light16_any al cl ys w hR
  go_enter Try.func6, Try.ntmps6
  go_wp2_with fail
  refine cL.mono ?_
  rintro e w1 (⟨rfl, hB1⟩ | ⟨rfl, hB1, hwt⟩)
  · clear cL
    have cV := lives16_any w1
    go_wp2_with fail
    refine cV.mono ?_
    rintro e w2 ⟨rfl, hB2⟩
    clear cV
    go_wp2
    go_ret
    exact ⟨rfl, hB1.trans (hB2.mono hB1.size)⟩
  clear cL
  have hz := bz_of (fun y hy => (hok y hy).row) hwt
  have cN := live_new 1048576 w1 (by omega) (by omega)
  go_wp2_with fail
  refine cN.mono ?_
  rintro e w2 ⟨rfl, hB2, hT2⟩
  clear cN
  obtain ⟨p, hp⟩ : ∃ p, Hid (w1.heap.size = p) := ⟨_, hide rfl⟩
  rw [hp.out] at hT2 ⊢
  have hwp : w.heap.size ≤ p := by rw [← hp.out]; exact hB1.size
  have hB02 : Below w.heap.size w w2 := hB1.trans (hB2.mono hB1.size)
  have lt2 : ∀ b, (fun b => b < p) b → b < w2.heap.size := fun b hb => Nat.lt_of_lt_of_le hb (by rw [← hp.out]; exact hB2.size)
  have cO := open_on p V0 (fun b => b < p) w2 hT2 lt2 rfl (by show (1048576 : Int) ≤ _; omega)
  simp only [vopen0, vrec0] at cO
  go_wp2_with fail
  refine cO.mono ?_
  rintro e w3 ⟨q, A2, hOp⟩
  clear cO hT2 lt2
  obtain ⟨h2up, h2q, h2lt, -, h2off, -, hT3, hsaid⟩ := hOp
  simp only at hT3 hsaid
  rcases hsaid with ⟨h, -⟩ | ⟨-, hJ3, v, rs, rfl, hW, hzs, -⟩
  · exact absurd rfl h
  obtain rfl : rs = [] := by simpa using hzs
  obtain ⟨ra, rc, rfl, -, -, -⟩ := hW.recs (by simp)
  clear hW hzs
  have hup : ∀ b, b < w.heap.size → A2 b := fun b hb => h2up b (by omega)
  have hB3 : Below w.heap.size w w3 := hB02.trans (h2off.below hB02.size (fun b hb q => q (by show b < p; omega)))
  clear h2off hB02 hB1 hB2 h2up
  obtain ⟨tm, htm, HT⟩ := six_of times
  have RB : IntKind.i64.wrap ((IntKind.u64.wrap times).tmod 6) = (tm : Int) := by rw [IntKind.wrap_i64]; unfold wrap64 at HT; exact HT
  have HR := hide hR
  have HOK := hide hok
  clear hR hok hrow
  obtain ⟨zss, hzss⟩ : ∃ zss, Hid (ys.map Rc.zs = zss) := ⟨_, hide rfl⟩
  rw [hzss.out] at hz
  have hzl : Hid (zss.length = ys.length) := hide (by rw [← hzss.out, List.length_map])
  go_wp2_with fail
  go_loopw [35] (fun iv wr => ∃ (k : Nat) (M : Mt) (sx : Nat), k ≤ ys.length ∧ iv = .int .i64 (k : Int) ∧ JAt wr ⟨q, p, 0, 1, 0⟩ ∧ Live A2 wr p M ∧ Hid (As M 1048576 0 0 false (catF (turnF 1 :: recsF (zss.take k))) sx [] 0 ∧ M.pl = false) ∧ (∀ b, A2 b → b < wr.heap.size) ∧ Below w.heap.size w wr) (fun iv _ => ys.length - (intOf iv).toNat)
  case atStart => exact ⟨0, V1, _, by omega, rfl, hJ3, hT3, hide ⟨vas1, vpl1⟩, h2lt, hB3⟩
  case round =>
    clear hJ3 hT3 h2lt hB3
    obtain ⟨k, M, sx, hk, rfl, hJ, hT, hM, hlt2, hB⟩ := hrel
    by_cases hlt : k < ys.length
    · have hltI : (k : Int) < (ys.length : Int) := by omega
      obtain ⟨b1, o1, hA1, hb1, hc1, hr1⟩ := (HR.out.below' hB).get k hlt
      have hkz : k < zss.length := by rw [hzl.out]; exact hlt
      have hzk : zss[k] = ys[k].zs := by simp only [← hzss.out, List.getElem_map]
      have hlen := hz.len (List.getElem_mem hkz)
      have hsn := recsF_snoc zss k hkz
      rw [hzk] at hlen hsn
      generalize ys[k] = y at *
      obtain ⟨ya, yc, yz⟩ := y
      simp only at hlen hsn hc1 hr1
      have hcm := app_std hM.out.1 yz hlen (by have := first_len hz k; simp; omega) q p 1
      rw [← hsn] at hcm
      rcases hcm with ⟨M', he, hA, hpl⟩ | ⟨hpl, _⟩
      rotate_left
      · rw [hM.out.2] at hpl; cases hpl
      have cA := jappend_any ⟨q, p, 0, 1, 0⟩ M A2 ya yc yz wr hJ hT hlt2 h2q hr1
      have he' : M.jappend ⟨q, p, 0, 1, 0⟩ yz = (0, M') := he
      rw [he'] at cA
      unfold jptr at cA
      simp only at cA
      have HM' := hide (And.intro hA (hpl hM.out.2))
      subst hA1
      clear hA hpl he he' hM hsn hzk hr1
      go_wp2_with fail
      refine cA.mono ?_
      rintro e w4 ⟨rfl, hT4, hJ4, hO4⟩
      clear cA
      have hB4 : Below w.heap.size w w4 := hB.trans (hO4.below hB.size (fun b hb q => q (hup b hb)))
      have hlt4 : ∀ b, A2 b → b < w4.heap.size := fun b hb => Nat.lt_of_lt_of_le (hlt2 b hb) hO4.size
      clear hO4 hT hJ hc1
      go_wp2
      go_roundw
      case rel => exact ⟨k + 1, M', sx, by omega, by go_num, hJ4, hT4, HM', hlt4, hB4⟩
      case measure => simp [intOf]; omega
    · obtain rfl : k = ys.length := by omega
      have hstd : Hid (∃ x sx y sy, Std M 0 false (((0 : Nat) : Int) + 1) zss x sx y sy) := hide ⟨_, _, _, _, by
        have q1 := hM.out.1
        rw [← hzl.out, List.take_length] at q1
        exact std_first q1 hM.out.2 hz⟩
      clear hM hJ hlt
      go_wp2_with fail
      go_loopw [48] (fun iv wr => ∃ (n : Nat) (M : Mt) (A : Nat → Prop) (kk : Bool), n ≤ tm ∧ iv = .int .i64 (n : Int) ∧ Live A wr p M ∧ Hid (∃ x sx y sy, Std M 0 kk ((n : Int) + 1) zss x sx y sy) ∧ (∀ b, A b → b < wr.heap.size) ∧ (∀ b, b < w.heap.size → A b) ∧ Below w.heap.size w wr) (fun iv _ => tm - (intOf iv).toNat)
      case atStart => exact ⟨0, M, A2, false, by omega, rfl, hT, hstd, hlt2, hup, hB⟩
      case round =>
        clear hT hstd hlt2 hup hB h2q
        obtain ⟨n, M, A, kk, hn, rfl, hT, hstd, hlt2, hup, hB⟩ := hrel
        by_cases hlt : n < tm
        · have hltI : (n : Int) < (tm : Int) := by omega
          obtain ⟨x, sx, y, sy, hS⟩ := hstd.out
          obtain ⟨hf2, M', hop, hS'⟩ := open_std hS hz (by omega) (by omega)
          have cO := open_on p M A wr hT hlt2 hS.st.on (by rw [hS.st.room]; omega)
          simp only [hop, hf2] at cO
          have e1 : (n : Int) + 1 + 1 = (n : Int) + 2 := by omega
          rw [e1] at hS' cO
          have HS' : Hid (∃ x sx y sy, Std M' 0 (!kk) (((n + 1 : Nat) : Int) + 1) zss x sx y sy) := hide ⟨_, _, _, _, by
            have e2 : (((n + 1 : Nat) : Int) + 1) = (n : Int) + 2 := by push_cast; omega
            rw [e2]; exact hS'⟩
          have hby : M'.jbytes (ka (!kk)) = ((catF (recsF zss ++ [turnF ((n : Int) + 2)])).length : Int) := by
            unfold Mt.jbytes
            rw [hS'.st.on, if_pos rfl, read_ka hS'.st.on, hS'.st.x]
          have hsu : decide (M'.sureOf (ka (!kk)) = M'.jbytes (ka (!kk))) = true := by
            rw [hby, sure_ka, hS'.st.sx]
            simp
          have hb0 : ((M'.jbytes (ka (!kk))) == 0) = false := by
            rw [hby, catF_append]
            simp [catF, turnF, frameL, kindL]
            omega
          obtain ⟨ar', har⟩ : ∃ ar', Hid (ka (!kk) = ar') := ⟨_, hide rfl⟩
          simp only [har.out] at cO
          rw [har.out] at hsu hb0
          clear hstd hS hS' hop hf2 hby
          go_wp2_with fail
          refine cO.mono ?_
          rintro e w4 ⟨q4, A4, hOp⟩
          clear cO
          obtain ⟨h4up, h4q, h4lt, -, h4off, -, hT4, hsaid⟩ := hOp
          simp only at hT4 hsaid
          rcases hsaid with ⟨h, -⟩ | ⟨-, hJ4, v, rs, rfl, hW, hzs, hrl, -⟩
          · exact absurd rfl h
          obtain ⟨ra4, rc4, rfl, hR4, -, -⟩ := hW.recs hrl
          have hB4 : Below w.heap.size w w4 := hB.trans (h4off.below hB.size (fun b hb q => q (hup b hb)))
          have cS := xsame_any ra4 al rc4 cl rs ys w4 hR4 (HR.out.below' hB4) (by rw [hzs, hzss.out])
          clear hW h4off hR4
          have n0 : ((0 : Int) != 0) = false := rfl
          go_wp2_with fail
          refine cS.mono ?_
          rintro e w5 ⟨rfl, hB5⟩
          clear cS
          have hJ5 := hJ4.below hB5
          have hT5 := hT4.below hB5
          have cT := jturn_any _ w5 hJ5
          unfold jptr at cT
          simp only at cT
          go_wp2_with fail
          refine cT.mono ?_
          rintro e wq ⟨rfl, hx⟩
          obtain rfl := hx.symm
          clear cT hx
          have cU := jsure_any _ M' A4 w5 hJ5 hT5
          simp only at cU
          rw [hsu] at cU
          unfold jptr at cU
          simp only at cU
          go_wp2_with fail
          refine cU.mono ?_
          rintro e w6 ⟨rfl, hB6⟩
          clear cU
          have cB := jbytes_any _ M' A4 w6 (hJ5.below hB6) (hT5.below hB6)
          unfold jptr at cB
          simp only at cB
          go_wp2_with fail
          refine cB.mono ?_
          rintro e w7 ⟨rfl, hB7⟩
          clear cB
          have hB57 : Below w4.heap.size w4 w7 := (hB5.trans (hB6.mono hB5.size)).trans (hB7.mono (Nat.le_trans hB5.size hB6.size))
          have hT7 := hT4.below hB57
          have hB07 := hB4.trans (hB57.mono hB4.size)
          have hlt7 : ∀ b, A4 b → b < w7.heap.size := fun b hb => Nat.lt_of_lt_of_le (h4lt b hb) hB57.size
          clear hT4 hT5 hJ4 hJ5 hB5 hB6 hB7 hT
          go_wp2
          go_roundw
          case rel => exact ⟨n + 1, M', A4, !kk, by omega, by go_num, hT7, HS', hlt7, fun b hb => h4up b (hup b hb), hB07⟩
          case measure => simp [intOf]; omega
        · obtain rfl : n = tm := by omega
          have cV := lives16_any wr
          go_wp2_with fail
          refine cV.mono ?_
          rintro e w5 ⟨rfl, hB5⟩
          clear cV
          go_wp2
          go_ret
          exact ⟨rfl, hB.trans (hB5.mono hB.size)⟩
end Go.Proofs.Ytfkchnjbbbhmjab.Ty
