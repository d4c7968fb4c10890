/- counts: the walk -/
import Derived.Test.YtogmkcabndgllaaV9b
namespace Go.Proofs.Ytogmkcabndgllaa
open Go.RowKit
theorem wpList_next_book {w : World} {ops : Array Oper} {rest : List Oper} {o : Oper} {a : Act} {Q : Exit → Act → World → Prop} (hg : o.guard = none) (it : Operand) (hop : o.op = Op.next it false) {b r n : Nat} {Dm : DataW Value} {left : Lit → Bool} {cnt : Nat} {st : List On}
    (hit : a.eval it = .pointer (some ⟨r, 0, none⟩)) (h : w.ranges Try.prog 65 anyE b r n Dm left cnt) (ho : ∀ x ∈ st, x.ok) (hat : ∀ x ∈ st, ∀ zd, Dm.atKey (klP x.v.k x.n) zd = .held (.agg x.sig.toArray)) (hsub : ∀ kl, left kl = true → ∃ x ∈ st, kl = klP x.v.k x.n)
    (hDone : (∀ kl, left kl = false) → wpList Try.prog ops Q rest (a.put o.dst (.tuple #[.bool false])) w)
    (hMore : ∀ x ∈ st, left (klP x.v.k x.n) = true → ∀ (w' : World) (cnt' : Nat), w'.ranges Try.prog 65 anyE b r n Dm (fun z => left z && !z.sameKey (klP x.v.k x.n)) cnt' → cnt' < cnt → w.grownBy w' (some r) →
      (Instr.entry (.pointer (some ⟨r, 0, none⟩))).run Try.prog w' = .ok (.tuple #[.agg #[.int .i64 x.v.k, .int .i64 x.n], .agg x.sig.toArray]) w' → wpList Try.prog ops Q rest (a.put o.dst (.tuple #[.bool true, .agg #[.int .i64 x.v.k, .int .i64 x.n], .agg x.sig.toArray])) w') :
    wpList Try.prog ops Q (o :: rest) a w := by
  refine wpList_plain hg fun K' hK' => ?_
  unfold Oper.wp
  rcases h.next lawP o.type with ⟨h0, hl, hrun⟩ | ⟨key, v, kl, y, w', cnt', hkey, hlk, hv, ha, hrun, hrg, hlt, hgr, hsz, hen⟩
  · simp [execOp, hop, hit, hrun, Result.andThen]
    exact hK' _ _ (hDone hl)
  · obtain ⟨x, hx, rfl⟩ := hsub kl hlk
    have hxo := ho x hx
    have e1 := lawP.inj hkey (key_pair x.v.k x.n hxo.v.k hxo.n)
    subst e1
    have e2 : v = .agg x.sig.toArray := by
      have h1 := ha .nil
      rw [hat x hx .nil] at h1
      simp only [anyE, Option.some.injEq] at hv
      rw [← hv] at h1
      simp only [DataW.held.injEq] at h1
      exact h1.symm
    subst e2
    simp [execOp, hop, hit, hrun, Result.andThen]
    exact hK' _ _ (hMore x hx hlk w' cnt' hrg hlt hgr hen)
structure Cr (w wr : World) (b r M : Nat) (st : List On) (k : Int) (Dm : DataW Value) : Prop where
  ex : ∃ left cnt n, wr.ranges Try.prog 65 anyE b r st.length Dm left cnt ∧ (∀ kl, left kl = true → ∃ x ∈ st, kl = klP x.v.k x.n) ∧ n + cnt ≤ st.length ∧ MapC wr M n st (fun x => decide (x.v.k = k) && !left (klP x.v.k x.n))
  bel : Below w.heap.size w wr
theorem left_step {N : Int} {st : List On} (hb : Bk N st) {x : On} (hx : x ∈ st) (left : Lit → Bool) (k : Int) : ∀ y ∈ st, (decide (y.v.k = k) && !(left (klP y.v.k y.n) && !(klP y.v.k y.n).sameKey (klP x.v.k x.n))) = if x.v.k = k then withX (fun y => decide (y.v.k = k) && !left (klP y.v.k y.n)) x y else (fun y => decide (y.v.k = k) && !left (klP y.v.k y.n)) y := by
  intro y hy
  have hxo := hb.ok x hx
  have hyo := hb.ok y hy
  have hky := lawP.key (key_pair y.v.k y.n hyo.v.k hyo.n)
  have hkx := lawP.key (key_pair x.v.k x.n hxo.v.k hxo.n)
  unfold withX
  by_cases he : y.v.k = x.v.k ∧ y.n = x.n
  · have hs : (klP y.v.k y.n).sameKey (klP x.v.k x.n) = true := by rw [he.1, he.2]; exact WideAt.sameKey_self hkx
    rw [hs]
    by_cases hk : x.v.k = k
    · rw [if_pos hk]
      simp [he, hk]
    · rw [if_neg hk]
      have : ¬ y.v.k = k := by rw [he.1]; exact hk
      simp [this]
  · have hs : (klP y.v.k y.n).sameKey (klP x.v.k x.n) = false := Maps.sameKey_ne (fun q => he (kl_inj hyo.v.k hyo.n hxo.v.k hxo.n q))
    rw [hs]
    by_cases hk : x.v.k = k
    · rw [if_pos hk]
      simp [he]
    · rw [if_neg hk]
      simp
theorem two_filled2 {w w3 : World} {a1 a2 : Array Value} {t1 t2 : TypeId} {c1 c2 : List Value} (h : (((w.alloc (.cells a1 t1)).alloc (.cells a2 t2)).setCells w.heap.size 0 c1).setCells (w.heap.size + 1) 0 c2 = w3) (h1 : c1.length = a1.size) (h2 : c2.length = a2.size) :
    Below w.heap.size w w3 ∧ w3.rangeAt w.heap.size 0 c1 ∧ w3.rangeAt (w.heap.size + 1) 0 c2 := by
  subst h
  obtain ⟨hb, ht1, ht2, _⟩ := two_new (w := w) (a1 := a1) (a2 := a2) (t1 := t1) (t2 := t2) rfl
  rw [← h1] at ht1
  rw [← h2] at ht2
  exact ⟨below_sets (Nat.le_succ _) _ _ _ (below_sets (Nat.le_refl _) _ _ _ hb), World.rangeAt_setCells_apart (World.rangeAt_setCells_same _ _ _ _ ht1) _ _ _ (.inl (by omega)), World.rangeAt_setCells_same _ _ _ _ (World.there_setCells ht2 _ _ _)⟩
theorem iszP : (Try.prog.info? 65).map (·.size) = some 2 := by kernel_rfl
def SCt (Z : Nat) (u : List Value) (x : World) : Prop := x.rangeAt Z 0 u
theorem Z3 {w w' : World} {n Z : Nat} {u : List Value} (_h : Below n w w') (hr : w'.rangeAt Z 0 u) (hu : 0 < u.length) : Z < w'.heap.size := by
  have := hr 0 _ (List.getElem?_eq_getElem hu)
  exact World.block_lt_of_cell? w' _ this
theorem wrap_ok {z : Int} (h1 : -9223372036854775808 ≤ z) (h2 : z ≤ 9223372036854775807) : IntKind.i64.wrap z = z := by
  rw [IntKind.wrap_i64]; omega
theorem ex_lookup {P : Program} {o : Oper} {a : Act} {w : World} {t : TypeId} {m x : Operand} {c : Bool} {mv kv v : Value} (ho : o.op = .lookup t m x c) (hm : a.eval m = mv) (hx : a.eval x = kv) (hr : (Instr.lookup t mv kv c).run P w = .ok v w) : (execOp a.eval o).run P w = .ok (.value v) w := by
  unfold execOp
  simp only [ho, hm, hx, Sem.run_bind, Sem.run_pure, Result.andThen_ok, hr]
theorem ex_mapEntry {P : Program} {o : Oper} {a : Act} {w w' : World} {t : TypeId} {m x : Operand} {mv kv v : Value} (ho : o.op = .mapEntry t m x) (hm : a.eval m = mv) (hx : a.eval x = kv) (hr : (Instr.mapEntry t mv kv).run P w = .ok v w') : (execOp a.eval o).run P w = .ok (.value v) w' := by
  unfold execOp
  simp only [ho, hm, hx, Sem.run_bind, Sem.run_pure, Result.andThen_ok, hr]
theorem ex_entryStore {P : Program} {o : Oper} {a : Act} {w w' : World} {t : TypeId} {m x y : Operand} {mv kv v : Value} (ho : o.op = .entryStore t m x y) (hm : a.eval m = mv) (hx : a.eval x = kv) (hy : a.eval y = v) (hr : (Instr.entryStore t mv kv v).run P w = .ok () w') : (execOp a.eval o).run P w = .ok .skip w' := by
  unfold execOp
  simp only [ho, hm, hx, hy, Sem.run_bind, Sem.run_pure, Result.andThen_ok, hr]
set_option maxRecDepth 100000 in
set_option maxHeartbeats 4000000 in
theorem counts_any (B b : Nat) (N : Int) (st : List On) (k : Int) (w : World) (h : BookAt w B b N st) (hlen : st.length < 1000000) :
    Calls Try.prog 25 #[.pointer (some ⟨B, 0, none⟩), .int .i64 k] w fun e w' => ∃ M n, e = .returned (.map (some M)) ∧ w.heap.size ≤ M ∧ n ≤ st.length ∧ MapC w' M n st (fun x => decide (x.v.k = k)) ∧ Below w.heap.size w w' := by
  obtain ⟨Dm, hown, hsz, hat, hhas⟩ := h.m
  have hB := h.lt
  have hbw := h.m.lt
  have hmm := @run_makeMap Try.prog
  have hb1 : Below w.heap.size w (w.alloc (.map #[] 0)) := (Below.refl _ _).alloc (Nat.le_refl _) _
  have c1 := (h.below hb1).c1
  have hown1 := hown.alloc (.map #[] 0)
  have hmc0 : ∀ p, (∀ x ∈ st, p x = false) → MapC (w.alloc (.map #[] 0)) w.heap.size 0 st p := fun p hp => MapC.made w st p hp
  have hbk := h.bk
  go_enter Try.func25, Try.ntmps25
  go_upto_region 2 with fail
  go_name_world w1 hw1
  rw [hw1] at hb1 c1 hown1 hmc0
  have hs1 : w1.heap.size ≥ w.heap.size + 1 := by rw [← hw1]; simp
  clear hw1 h hown
  go_wp2_with (first
    | (at_range; refine wpList_range_own _ rfl _ 53 rfl 65 63 lawP Try.underlying53 anyE b _ Dm rfl hown1 ?_; intro w0 hrg0 hg0 hs0))
  go_frame
  obtain ⟨r, hr⟩ : ∃ r, w1.heap.size = r := ⟨_, rfl⟩
  rw [hr] at hrg0 ⊢
  have hMr : w.heap.size ≠ r := by omega
  have hst : Cr w w0 b r w.heap.size st k Dm := ⟨⟨Maps.has Dm, Maps.size Dm, 0, hrg0, fun kl hk => (hhas kl).1 hk, by omega, (hmc0 _ (fun x hx => by rw [(hhas _).2 ⟨x, hx, rfl⟩]; simp)).at (hg0.block _ (by omega) (by simp))⟩, hb1.grown hg0 (by omega) (fun j hj => by cases hj)⟩
  clear hmc0 hrg0 hg0 hs0 hb1 hown1 hsz c1
  go_loopw [14] (fun _ wr => Hid (Cr w wr b r w.heap.size st k Dm)) (fun _ wr => wr.rangeLeft b r)
  case atStart => exact hide hst
  case round =>
    obtain ⟨⟨left, cnt, n, hrg, hsub, hnc, hmc⟩, hbel⟩ := hrel.out
    have hrw := hrg.lt
    go_wp2_with (first | (at_next; refine wpList_next_book rfl _ rfl rfl hrg hbk.ok hat hsub ?_ ?_))
    · intro hl0
      have hfin : MapC wr w.heap.size n st (fun x => decide (x.v.k = k)) := hmc.congr (fun x _ => by rw [hl0]; simp)
      clear hrg hmc hsub hhas hat hst hrel hl0
      go_wp2_with fail
      go_ret
      exact ⟨w.heap.size, n, rfl, Nat.le_refl _, by omega, hfin, hbel⟩
    · intro x hx hlx w2 cnt2 hrg2 hlt2 hg2 hen
      have hxo := hbk.ok x hx
      have hstep := left_step hbk hx left k
      have hsub2 : ∀ kl, (left kl && !kl.sameKey (klP x.v.k x.n)) = true → ∃ x ∈ st, kl = klP x.v.k x.n := fun kl hkl => hsub kl (by simp only [Bool.and_eq_true] at hkl; exact hkl.1)
      have hmc2 := hmc.at (hg2.block _ hmc.lt (fun e => hMr (by injection e with e)))
      have hbel2 := hbel.grown hg2 (by have := hbel.size; omega) (fun j hj => by injection hj with hj; omega)
      have hpx : (decide (x.v.k = k) && !left (klP x.v.k x.n)) = false := by rw [hlx]; simp
      obtain ⟨q, hq⟩ : ∃ q, Hid (x.sig.toArray = q) := ⟨_, hide rfl⟩
      have hq52 : q.size = 52 := by rw [← hq.out]; simpa using hxo.sl
      have hq1 : q.all (·.oneCell') = true := by rw [← hq.out]; exact all_one x.sone
      have hqe : Hid (q.toList = x.v.cells ++ v8 x.t) := hide (by rw [← hq.out]; rfl)
      rw [hq.out] at hen ⊢
      obtain ⟨kp, hkp⟩ : ∃ kp, Hid (#[Value.int .i64 x.v.k, Value.int .i64 x.n] = kp) := ⟨_, hide rfl⟩
      rw [hkp.out] at hen ⊢
      have hkp2 : kp.size = 2 := by rw [← hkp.out]; rfl
      have hkp1 : kp.all (·.oneCell') = true := by rw [← hkp.out]; simp [Value.oneCell']
      have hikp : (Try.prog.info? 65).map (·.size) = some kp.size := by rw [hkp2]; exact iszP
      have hkp0 : kp.toList[0]? = some (.int .i64 x.v.k) := by rw [← hkp.out]; rfl
      have hiq : (Try.prog.info? 63).map (·.size) = some q.size := by rw [hq52]; exact iszS
      have hiV : (Try.prog.info? 31).map (·.size) = some x.v.cells.length := by rw [hxo.v.len]; exact iszV
      have hbr2 := hrg2.ne
      have hs2 := hbel2.size
      have hlt' := hrg2.lt
      have hcle := cnt_le st (fun x => decide (x.v.k = k) && !left (klP x.v.k x.n)) x.v
      clear hmc hbel hst hrel hhas hat hsub hlx hq
      go_upto_region 5 with (first
        | (refine wpList_store_mid rfl 65 _ _ rfl _ 0 kp rfl rfl (two_thereA _ _ _ _ _ hkp2.symm) hikp hkp1 ?_)
        | (refine wpList_store_mid rfl 63 _ _ rfl _ 0 q rfl rfl (two_thereB _ _ _ _ _ _ hq52.symm) hiq hq1 ?_))
      go_name_world w3 hw3
      have hF := two_filled2 hw3 (by simpa using hkp2) (by simpa using hq52)
      clear hw3
      obtain ⟨hB3, hP3, hQ3⟩ := hF
      have k0 := hP3 0 _ hkp0
      rw [hqe.out] at hQ3
      have hV3 := range_left hQ3
      rw [Nat.add_zero] at k0
      have hg3 : w2.grownBy w3 none := ⟨hB3.os, hB3.tape, hB3.output, hB3.size, fun i hi _ => hB3.block i hi⟩
      have hrg3 := hrg2.kept hg3 (by simp) (by simp)
      have hmc3 := hmc2.at (hB3.block _ hmc2.lt)
      have hbel3 : Below w.heap.size w w3 := hbel2.trans (hB3.mono hs2)
      clear hrg2 hmc2 hbel2 hP3 hQ3 hqe hg3
      by_cases hk : x.v.k = k
      · have hke : (x.v.k == k) = true := by simpa using hk
        obtain ⟨Z, hZ⟩ : ∃ Z, w2.heap.size + 1 = Z := ⟨_, rfl⟩
        obtain ⟨u, hu⟩ : ∃ u, Hid (x.v.cells = u) := ⟨_, hide rfl⟩
        have HU : Hid (MapC w3 w.heap.size n st (fun x => decide (x.v.k = k) && !left (klP x.v.k x.n))) := hide hmc3
        rw [hu.out] at hV3 hiV
        obtain ⟨xk, hxk⟩ : ∃ xk, Hid (x.v.k = xk) := ⟨_, hide rfl⟩
        rw [hxk.out] at hke k0
        go_wp2_with fail
        rw [hZ] at hV3
        clear hke k0
        obtain ⟨w8, hw8⟩ : ∃ w8, w3.drew = w8 := ⟨_, rfl⟩
        have hb38 : Below w3.heap.size w3 w8 := by rw [← hw8]; exact (Below.refl _ _).drew
        have hS : SCt Z u w8 := range_below hV3 hb38 (by have := hB3.size; have := Z3 hB3 hV3 (by rw [← hu.out]; simp [hxo.v.len]); omega)
        have hm8 : MapC w8 w.heap.size n st _ := HU.out.at (hb38.block _ HU.out.lt)
        have hrg8 := hrg3.kept (⟨hb38.os, hb38.tape, hb38.output, hb38.size, fun i hi _ => hb38.block i hi⟩ : w3.grownBy w8 none) (by simp) (by simp)
        have hbel8 : Below w.heap.size w w8 := hbel3.trans (hb38.mono (by have := hB3.size; omega))
        obtain ⟨v0, s0, w9, hent, hlk9, hg9, hsto⟩ := hm8.entry (by omega) x.v hxo.v
        obtain ⟨w10, hup, hm10, hg10⟩ := hm8.store hbk.uniq hbk.ok x hx hpx hlen (by omega)
        have hlk := hm8.look x.v hxo.v
        have hsto := hsto _ _ hup
        rw [hu.out] at hent hlk9 hlk
        obtain ⟨c, hc⟩ : ∃ c : Int, Hid (((cntP st (fun x => decide (x.v.k = k) && !left (klP x.v.k x.n)) x.v : Nat) : Int) = c) := ⟨_, hide rfl⟩
        have hcb : 0 ≤ c ∧ c < 1000000 := by rw [← hc.out]; omega
        rw [hc.out] at hlk hlk9 hsto
        have hwr : IntKind.i64.wrap (c + 1) = c + 1 := wrap_ok (by omega) (by omega)
        have hZne : w.heap.size ≠ Z := by omega
        have hZ8 : Z < w8.heap.size := Z3 hb38 hS (by rw [← hu.out]; simp [hxo.v.len])
        have hS9 : SCt Z u w9 := range_at hS (hg9.block _ hZ8 (fun e => hZne (by injection e with e; exact e.symm)))
        have hS10 : SCt Z u w10 := range_at hS (hg10.block _ hZ8 (fun e => hZne (by injection e with e; exact e.symm)))
        have hrg10 := hrg8.kept hg10 (fun e => by injection e with e; omega) (fun e => by injection e with e; omega)
        have HR : Hid (Cr w w10 b r w.heap.size st k Dm) := hide ⟨⟨_, cnt2, n + 1, hrg10, hsub2, by omega, hm10.congr (fun y hy => by have := hstep y hy; rw [if_pos hk] at this; exact this.symm)⟩, hbel8.grown hg10 hbel8.size (fun j hj => by injection hj with hj; omega)⟩
        have HM := hide hrg10.left_eq
        clear hm8 hm10 hrg10 hrg8 hrg3 HU hup hstep hsub2 hpx hmc3 hbel8 hbel3 hc hg9 hg10 hV3 hB3 hb38
        refine hs_begin (S := SCt Z u) 8 rfl (by kernel_rfl) ?_
        rw [hw8]
        clear hw8
        refine hs_take (i := 0) (d := some 23) (v := ?_) rfl (by kernel_rfl) (by kernel_rfl) (by kernel_rfl) (by rfl) ?_ hS rfl ?_
        rotate_left
        · intro w' hw
          go_simp
          try with_reducible rfl
        simp only [Act.put, List.setIfInBounds_toArray, List.set_cons_zero, List.set_cons_succ]
        refine hs_take (i := 1) (d := some 24) (v := ?_) rfl (by kernel_rfl) (by kernel_rfl) (by kernel_rfl) (by rfl) ?_ hS rfl ?_
        rotate_left
        · intro w' hw
          go_simp
          try with_reducible rfl
        simp only [Act.put, List.setIfInBounds_toArray, List.set_cons_zero, List.set_cons_succ]
        refine hs_take (i := 2) (d := some 25) (v := .agg u.toArray) rfl (by kernel_rfl) (by kernel_rfl) (by kernel_rfl) (by rfl) (fun w' hw => exec_load rfl rfl (run_loadVar_mid (P := Try.prog) w' Z 0 31 u _ hw Try.underlying31 rfl hiV)) hS rfl ?_
        simp only [Act.put, List.setIfInBounds_toArray, List.set_cons_zero, List.set_cons_succ]
        refine hs_fork (i := 3) (j := 5) (by kernel_rfl) ?_ ?_
        · skip
          refine st_run (i := 3) (d := some 26) (v := .int .i64 c) (w' := w8) rfl (by rfl) (ex_lookup rfl rfl rfl hlk) rfl hS ?_
          simp only [Act.put, List.setIfInBounds_toArray, List.set_cons_zero, List.set_cons_succ]
          refine hs_take (i := 4) (d := some 27) (v := .int .i64 (c + 1)) rfl (by kernel_rfl) (by kernel_rfl) (by kernel_rfl) (by rfl) (fun w' hw => by have := hwr; go_simp) hS rfl ?_
          simp only [Act.put, List.setIfInBounds_toArray, List.set_cons_zero, List.set_cons_succ]
          refine hs_run (i := 5) (d := some 28) (v := .tuple #[v0, s0]) (w' := w9) rfl (by kernel_rfl) (by rfl) (ex_mapEntry rfl rfl rfl hent) rfl hS9 ?_
          simp only [Act.put, List.setIfInBounds_toArray, List.set_cons_zero, List.set_cons_succ]
          refine hs_take (i := 6) (d := some 29) (v := ?_) rfl (by kernel_rfl) (by kernel_rfl) (by kernel_rfl) (by rfl) ?_ hS9 rfl ?_
          rotate_left
          · intro w' hw
            go_simp
            try with_reducible rfl
          simp only [Act.put, List.setIfInBounds_toArray, List.set_cons_zero, List.set_cons_succ]
          refine hs_store (i := 7) (w' := w10) rfl (by kernel_rfl) (by rfl) (ex_entryStore rfl rfl rfl rfl hsto) rfl hS10 ?_
          refine hs_done (by kernel_rfl) ?_
          go_wp2_with fail
          go_roundw
          case rel => exact HR
          case measure => rw [HM.out, hrg.left_eq]; exact hlt2
        · skip
          refine st_run (i := 5) (d := some 28) (v := .tuple #[v0, s0]) (w' := w9) rfl (by rfl) (ex_mapEntry rfl rfl rfl hent) rfl hS9 ?_
          simp only [Act.put, List.setIfInBounds_toArray, List.set_cons_zero, List.set_cons_succ]
          refine hs_take (i := 6) (d := some 29) (v := ?_) rfl (by kernel_rfl) (by kernel_rfl) (by kernel_rfl) (by rfl) ?_ hS9 rfl ?_
          rotate_left
          · intro w' hw
            go_simp
            try with_reducible rfl
          simp only [Act.put, List.setIfInBounds_toArray, List.set_cons_zero, List.set_cons_succ]
          refine hs_run (i := 3) (d := some 26) (v := .int .i64 c) (w' := w9) rfl (by kernel_rfl) (by rfl) (ex_lookup rfl rfl rfl hlk9) rfl hS9 ?_
          simp only [Act.put, List.setIfInBounds_toArray, List.set_cons_zero, List.set_cons_succ]
          refine hs_take (i := 4) (d := some 27) (v := .int .i64 (c + 1)) rfl (by kernel_rfl) (by kernel_rfl) (by kernel_rfl) (by rfl) (fun w' hw => by have := hwr; go_simp) hS9 rfl ?_
          simp only [Act.put, List.setIfInBounds_toArray, List.set_cons_zero, List.set_cons_succ]
          refine hs_store (i := 7) (w' := w10) rfl (by kernel_rfl) (by rfl) (ex_entryStore rfl rfl rfl rfl hsto) rfl hS10 ?_
          refine hs_done (by kernel_rfl) ?_
          go_wp2_with fail
          go_roundw
          case rel => exact HR
          case measure => rw [HM.out, hrg.left_eq]; exact hlt2
      · have hke : (x.v.k == k) = false := by simpa using hk
        go_wp2_with fail
        have HR : Hid (Cr w w3 b r w.heap.size st k Dm) := hide ⟨⟨_, cnt2, n, hrg3, hsub2, by omega, hmc3.congr (fun y hy => by have := hstep y hy; rw [if_neg hk] at this; exact this.symm)⟩, hbel3⟩
        have HM := hide hrg3.left_eq
        clear hrg3 hmc3 hbel3
        go_roundw
        case rel => exact HR
        case measure => rw [HM.out, hrg.left_eq]; exact hlt2
end Go.Proofs.Ytogmkcabndgllaa
