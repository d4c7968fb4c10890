/- digest.begin, Sum and Chain. -/
import Derived.Test.YtogmkcabndgllaaDoorEnd
namespace Go.Proofs.YtogmkcabndgllaaDoor
open Go.RowKit
open Sha
/-- the two tables of the package -/
def Glob (w : World) : Prop := w.rangeAt 0 0 (v32 (list init)) ∧ w.rangeAt 1 0 (v32 kl) ∧ 2 ≤ w.heap.size
theorem Glob.below {w w' : World} (h : Glob w) (hb : Below w.heap.size w w') : Glob w' :=
  ⟨range_below h.1 hb (by have := h.2.2; omega), range_below h.2.1 hb (by have := h.2.2; omega), Nat.le_trans h.2.2 hb.size⟩
def vinit : List Value := v32 (list init) ++ v8 (List.replicate 64 (0 : Int)) ++ [.int .i64 0, .int .u64 0]
theorem isz55 : (Tryd.prog.info? 96).map (·.size) = some 74 := by kernel_rfl
theorem vinit_one : ∀ v ∈ vinit, v.oneCell' = true := by
  intro v hv
  rcases List.mem_append.1 hv with hv | hv
  · rcases List.mem_append.1 hv with hv | hv
    · exact v32_one _ v hv
    · exact v8_one _ v hv
  · simp at hv
    rcases hv with rfl | rfl <;> rfl
theorem vinit_length : vinit.length = 74 := rfl
def vzero : List Value := v32 (List.replicate 8 (0 : Wd)) ++ v8 (List.replicate 64 (0 : Int)) ++ [.int .i64 0, .int .u64 0]
theorem zero55 (w : World) : (zeroValue 96).run Tryd.prog w = .ok (.agg vzero.toArray) w := by kernel_rfl
theorem new55 (w : World) : (w.alloc (.cells vzero.toArray 96)).there w.heap.size 0 vinit.toArray.size := there_new w vzero.toArray 96
set_option maxRecDepth 20000 in
set_option maxHeartbeats 2000000 in
theorem begin_any (w : World) (h : Glob w) :
   Calls Tryd.prog 41 #[] w fun e w' => e = .returned (.agg vinit.toArray) ∧ Below w.heap.size w w' := by
  have hz := zero55
  have hfo : List.foldl (fun (cs : Array Value) (x : Value × Nat) => cs.setIfInBounds x.snd x.fst) vzero.toArray (v32 (list init)).zipIdx = vinit.toArray := by kernel_rfl
  have hN := new55 w
  have hI := World.rangeAt_alloc h.1 (.cells vzero.toArray 96)
  have F := fresh_store w vzero.toArray 96 vinit rfl
  have hi : (Tryd.prog.info? 96).map (·.size) = some vinit.toArray.size := isz55
  have h1c := vinit_one
  have hvl : (v32 (list init)).length = 8 := rfl
  have hzl : vzero.length = 74 := rfl
  have hi8 : (Tryd.prog.info? 87).map (·.size) = some (v32 (list init)).length := isz51
  obtain ⟨vi, hvi⟩ : ∃ vi, Hid (vinit = vi) := ⟨_, rfl⟩
  obtain ⟨vs, hvs⟩ : ∃ vs, Hid (v32 (list init) = vs) := ⟨_, rfl⟩
  rw [hvi.out] at hN F hi h1c
  rw [hvs.out] at hI hi8 hvl
  rw [hvs.out, hvi.out] at hfo
  rw [hvi.out]
  generalize vzero = vz at *
  go_enter Tryd.func41, Tryd.ntmps41
  go_upto_region 1 with fail
  refine wp_region_list ?_
  refine wpList_load_mid rfl 87 _ rfl 0 0 rfl vs _ hI Tryd.underlying87 rfl hi8 ?_
  go_wp2_with (refine wpList_store_mid rfl 96 _ _ rfl _ _ vi.toArray rfl rfl hN hi (all_oneCell_toArray h1c) ?_)
  obtain ⟨hF1, hF2, hF3, hF4⟩ := F
  generalize (w.alloc (.cells vz.toArray 96)).setCells w.heap.size 0 vi = wx at *
  have hrs := run_loadVar_mid (P := Tryd.prog) wx w.heap.size 0 96 vi _ hF1 Tryd.underlying96 rfl (by simpa using hi)
  refine bodyPost_ret (v := .agg vi.toArray) (by simp [results, Tryd.results41, Act.put, asAddr, hrs]) rfl ⟨rfl, hF2⟩
/-- a part: where it lies, its capacity, its bytes -/
structure Part where
  a : Option Addr
  cap : Nat
  zs : List Int
def Part.val (p : Part) : Value := .slice p.a p.zs.length p.cap
def Part.at (p : Part) (w : World) : Prop := RowAt w p.a p.zs ∧ p.zs.length ≤ p.cap ∧ p.cap ≤ maxLen
/-- a slice of parts -/
def PartsAt (w : World) (a : Option Addr) (ps : List Part) : Prop :=
  ps.length ≤ maxLen ∧ (∀ p ∈ ps, p.at w) ∧ (ps = [] ∨ ∃ b off, a = some ⟨b, off, none⟩ ∧ b < w.heap.size ∧ w.rangeAt b off (ps.map Part.val))
def cat (ps : List Part) : List Int := ps.flatMap Part.zs
theorem Part.at.below {w w' : World} {p : Part} (h : p.at w) (hb : Below w.heap.size w w') : p.at w' := ⟨h.1.below hb, h.2.1, h.2.2⟩
theorem PartsAt.below {w w' : World} {a : Option Addr} {ps : List Part} (h : PartsAt w a ps) (hb : Below w.heap.size w w') : PartsAt w' a ps := by
  refine ⟨h.1, fun p hp => (h.2.1 p hp).below hb, ?_⟩
  rcases h.2.2 with q | ⟨b, off, rfl, h1, h2⟩
  · exact Or.inl q
  · exact Or.inr ⟨b, off, rfl, Nat.lt_of_lt_of_le h1 hb.size, range_below h2 hb h1⟩
theorem cat_append (p q : List Part) : cat (p ++ q) = cat p ++ cat q := by simp [cat]
theorem cat_take_succ (ps : List Part) (k : Nat) (hk : k < ps.length) : cat (ps.take (k + 1)) = cat (ps.take k) ++ ps[k].zs := by
  rw [List.take_succ_eq_append_getElem hk, cat_append]
  congr 1
  simp [cat]
theorem cat_take_le (ps : List Part) (k : Nat) : (cat (ps.take k)).length ≤ (cat ps).length := by
  have e : cat ps = cat (ps.take k) ++ cat (ps.drop k) := by rw [← cat_append, List.take_append_drop]
  rw [e, List.length_append]; omega
/-- a new digest on its way -/
theorem run_new (w : World) (R : Nat) (hg : Glob w) (hR : R < w.heap.size) (h2 : 2 ≤ R) (hr : w.rangeAt R 0 vinit) (ht : w.there R 0 74) : Run w R init [] 0 := by
  refine ⟨h2, hR, ht, ?_, by simp, by simp, ⟨List.replicate 64 (0 : Int), by simp, ?_⟩, ?_, ?_, hg.2.1⟩
  · exact range_left (range_left hr)
  · have := range_right (range_left hr); exact this
  · exact hr 72 _ rfl
  · exact hr 73 _ rfl
theorem Run.mem {w : World} {R : Nat} {s : St} {wait : List Int} {n : Nat} (h : Run w R s wait n) : R < w.heap.size := h.lt
set_option maxRecDepth 20000 in
set_option maxHeartbeats 2000000 in
theorem sum_any (a : Option Addr) (cap : Nat) (ps : List Part) (w : World) (hG : Glob w) (h : PartsAt w a ps) (hn : (cat ps).length < 1152921504606846976) :
   Calls Tryd.prog 32 #[.slice a ps.length cap] w fun e w' => e = .returned (.agg (v8 (sha (cat ps))).toArray) ∧ Below w.heap.size w w' := by
  have hm := h.1
  unfold maxLen at hm
  have hz := zero55
  have B1 : Below w.heap.size w (w.alloc (.cells (Array.replicate 32 (.int .u8 0)) 26)) := (Below.refl _ _).alloc (Nat.le_refl _) _
  have cb := begin_any (w.alloc (.cells (Array.replicate 32 (.int .u8 0)) 26)) (hG.below B1)
  have hD := (new_bytes w 32 26).2
  have hi : (Tryd.prog.info? 96).map (·.size) = some vinit.toArray.size := isz55
  have h1c := vinit_one
  go_enter Tryd.func32, Tryd.ntmps32
  go_wp2_with fail
  refine cb.mono ?_
  rintro e w1 ⟨rfl, hw1⟩
  clear cb
  have hN := new55 w1
  have F := fresh_store w1 vzero.toArray 96 vinit rfl
  have hs1 := hw1.size
  simp only [World.size_alloc] at hs1
  have hB1 : Below w.heap.size w w1 := B1.trans (hw1.mono (by simp))
  have hD1 := there_below hD hw1 (by simp)
  clear hw1 hD B1
  obtain ⟨vi, hvi⟩ : ∃ vi, Hid (vinit = vi) := ⟨_, rfl⟩
  rw [hvi.out] at hN F hi h1c ⊢
  have HZL : Hid (vzero.toArray.size = 74) := rfl
  generalize vzero = vz at *
  go_wp2_with (refine wpList_store_mid rfl 96 _ _ rfl _ _ vi.toArray rfl rfl hN hi (all_oneCell_toArray h1c) ?_)
  go_name_world w2 hw2
  rw [hw2] at F
  obtain ⟨hF1, hF2, hF3, hF4⟩ := F
  rw [← hvi.out] at hF1
  have hB2 := hB1.trans (hF2.mono (by omega))
  have hD2 := there_below hD1 hF2 (by omega)
  have hGw2 := hG.below hB2
  have hR0 := run_new w2 w1.heap.size hGw2 (by omega) (by have := hG.2.2; omega) hF1 (there_part hF4 0 74 (by rw [← HZL.out]; simp))
  clear hw2 hN hi h1c hz hF1 hF2 hF4 hB1 hD1 hGw2
  have hRw : w.heap.size < w1.heap.size := by omega
  generalize w1.heap.size = R at hR0 hF3 hRw ⊢
  go_loopw [9] (fun i wr => ∃ (k : Nat) (s : St) (wt : List Int) (N : Nat), k ≤ ps.length ∧ i = .int .i64 (k : Int) ∧ Hid (feeds (init, []) (cat (ps.take k)) = (s, wt)) ∧ Hid ((cat (ps.take k)).length = N) ∧ Run wr R s wt N ∧ Below w.heap.size w wr ∧ wr.there w.heap.size 0 32) (fun i _ => ps.length - (intOf i).toNat)
  case atStart => exact ⟨0, init, [], 0, by omega, rfl, rfl, rfl, hR0, hB2, hD2⟩
  case round =>
    clear hR0 hB2 hD2 hF3
    obtain ⟨k, s, wt, N, hk, rfl, hfd, hN, hRun, hB, hD⟩ := hrel
    by_cases hlt : k < ps.length
    · obtain ⟨b, off, rfl, hbs, hrg⟩ : ∃ b off, a = some ⟨b, off, none⟩ ∧ b < w.heap.size ∧ w.rangeAt b off (ps.map Part.val) := by
        rcases h.2.2 with rfl | q
        · simp at hlt
        · exact q
      obtain ⟨pa, pc, pz, hp, hat⟩ : ∃ pa pc pz, Hid (ps[k] = ⟨pa, pc, pz⟩) ∧ (⟨pa, pc, pz⟩ : Part).at w := by
        have := h.2.1 ps[k] (List.getElem_mem hlt)
        exact ⟨ps[k].a, ps[k].cap, ps[k].zs, rfl, this⟩
      have hcell : wr.cell? ⟨b, off + k, none⟩ = some (.slice pa pz.length pc) := by
        rw [hB.cell (p := ⟨b, off + k, none⟩) hbs]
        refine hrg k _ ?_
        rw [List.getElem?_map, List.getElem?_eq_getElem hlt, hp.out]; rfl
      obtain ⟨hr, hpc, hpm⟩ := hat
      have hbe := hB.size
      have htot : N + pz.length ≤ (cat ps).length := by
        have := cat_take_le ps (k + 1)
        rw [cat_take_succ ps k hlt, List.length_append, hN.out, hp.out] at this
        exact this
      have ca := add_any R s wt N pa pc pz wr hRun (hr.below hB) hpc hpm (by
        rcases hr.2.2 with q | ⟨b', o', hx', hb', _⟩
        · exact Or.inl q
        · exact Or.inr (fun x hx => by rw [show pa = some ⟨b', o', none⟩ from hx'] at hx; cases hx; show b' ≠ R; omega)) (by omega)
      have HS : Hid (feeds (init, []) (cat (ps.take (k + 1))) = feeds (s, wt) pz) := by
        show _ = _
        rw [cat_take_succ ps k hlt, feeds_append, hfd.out, hp.out]
      have HN : Hid ((cat (ps.take (k + 1))).length = N + pz.length) := by
        show _ = _
        rw [cat_take_succ ps k hlt, List.length_append, hN.out, hp.out]
      clear hp hr hfd hN hpm htot hpc
      go_wp2_with fail
      refine ca.mono ?_
      rintro e w3 ⟨rfl, hR3, hg3⟩
      clear ca
      go_wp2_with fail
      go_roundw
      case rel =>
        refine ⟨k + 1, _, _, _, by omega, by go_num, HS, HN, hR3, hB.grown hg3 hB.size (fun j hj => by cases hj; omega), there_gb hD hg3 (by have := hRun.lt; omega) (by omega)⟩
      case measure => simp [intOf]; omega
    · obtain rfl : k = ps.length := by omega
      rw [List.take_length] at hfd hN
      have hwt := feeds_len (cat ps) (init, []) (by simp)
      rw [hfd.out, hN.out] at hwt
      have ce := end_any R s wt N wr hRun (by simpa using hwt.1) (by rw [← hN.out]; exact hn)
      have HR : Hid (Sha.bytes (feeds (s, wt) (Sha.tail N)).1 = sha (cat ps)) := by
        show _ = _
        unfold sha
        rw [feeds_append, hfd.out, hN.out]
      rw [HR.out] at ce
      have hsl : (v8 (sha (cat ps))).length = 32 := by rw [v8_length]; unfold sha; rw [bytes_out, outb_length]; rfl
      have h1c := v8_one (sha (cat ps))
      obtain ⟨cs, hcs⟩ : ∃ cs, Hid (v8 (sha (cat ps)) = cs) := ⟨_, rfl⟩
      rw [hcs.out] at ce hsl h1c
      clear HR hwt hN hfd
      go_wp2_with fail
      refine ce.mono ?_
      rintro e w3 ⟨rfl, hg3⟩
      clear ce
      have hD3 := there_gb hD hg3 (by have := hRun.lt; omega) (by omega)
      have hB3 : Below w.heap.size w w3 := hB.grown hg3 hB.size (fun j hj => by cases hj; omega)
      have hi : (Tryd.prog.info? 26).map (·.size) = some cs.toArray.size := by rw [List.size_toArray, hsl]; exact isz24
      have hsz : cs.toArray.size = 32 := by rw [List.size_toArray, hsl]
      have hD4 : w3.there w.heap.size 0 cs.toArray.size := by rw [hsz]; exact hD3
      go_wp2_with (refine wpList_store_mid rfl 26 _ _ rfl _ _ cs.toArray rfl rfl hD4 hi (all_oneCell_toArray h1c) ?_)
      have hRr := World.rangeAt_setCells_same w3 w.heap.size 0 cs (by rw [hsl]; exact hD3)
      have hBl := below_sets (Nat.le_refl w.heap.size) cs 0 w3 hB3
      have hrs := run_loadVar_mid (P := Tryd.prog) (w3.setCells w.heap.size 0 cs) w.heap.size 0 26 cs _ hRr Tryd.underlying26 rfl (by rw [hsl]; exact isz24)
      refine bodyPost_ret (v := .agg cs.toArray) (by simp [results, Tryd.results32, Act.put, asAddr, hrs]) rfl ⟨by rw [hcs.out], hBl⟩
end Go.Proofs.YtogmkcabndgllaaDoor
