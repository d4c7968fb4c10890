/- a book's map: what lies in memory -/
import Derived.Test.YtogmkcabndgllaaV2
import Derived.Maps.RangeWalk
import Derived.DeepKeys4
namespace Go.Proofs.Ytogmkcabndgllaa
open Go.RowKit
theorem laidOut : laidOutB Try.prog = true := by kernel_rfl
theorem lawP : Maps.Keyed Try.prog 65 := Maps.Keyed.of_law (deep_law_laid laidOut (m := 5) (by decide) (of_decide_eq_true (by kernel_rfl)) (by kernel_rfl) (by kernel_rfl))
theorem lawV : Maps.Keyed Try.prog 31 := Maps.Keyed.of_law (deep_law_laid laidOut (m := 5) (by decide) (of_decide_eq_true (by kernel_rfl)) (by kernel_rfl) (by kernel_rfl))
theorem klawV : WideMaps.KeyLaw Try.prog 31 := deep_law_laid laidOut (m := 5) (by decide) (of_decide_eq_true (by kernel_rfl)) (by kernel_rfl) (by kernel_rfl)
def klP (c n : Int) : Lit := .string (keyBytes [.int .i64 c, .int .i64 n])
theorem lits_int (d : Nat) (c : Int) (hc : I64 c) : Try.prog.keyLits (d + 1) 3 [.int .i64 c] = some [.int .i64 c] := by
  have wc : (Lit.int .i64 c).wf = true := by simp only [Lit.wf, Bool.and_eq_true, decide_eq_true_eq]; exact hc
  simp only [Program.keyLits, Try.underlying3, wc, and_self, if_true]
theorem lits_pair (d : Nat) (c n : Int) (hc : I64 c) (hn : I64 n) : Try.prog.keyLits (d + 1 + 1) 65 [.int .i64 c, .int .i64 n] = some [.int .i64 c, .int .i64 n] := by
  have hc2 : Try.prog.cellsOf 65 = 2 := by kernel_rfl
  have hc1 : Try.prog.cellsOf 3 = 1 := by kernel_rfl
  have h1 := lits_int d c hc
  have h2 := lits_int d n hn
  unfold Program.keyLits
  simp only [Try.underlying65]
  rw [if_pos ⟨by rw [hc2]; rfl, by decide +kernel⟩]
  simp only [List.mapM_cons, List.mapM_nil, hc1, List.drop_zero, List.take_succ_cons, List.take_zero, List.drop_succ_cons, h1, h2, Option.bind_eq_bind, Option.bind_some, Option.pure_def, Option.map_some, List.flatten_cons, List.flatten_nil, List.append_nil, List.cons_append, List.nil_append]
theorem key_pair (c n : Int) (hc : I64 c) (hn : I64 n) : Go.keyOf Try.prog 65 (.agg #[.int .i64 c, .int .i64 n]) = some (klP c n) := by
  have hsz : Try.prog.types.size + 1 = 95 + 1 := by kernel_rfl
  have hk : Try.prog.keyType 65 = true := by kernel_rfl
  have hc2 : Try.prog.cellsOf 65 = 2 := by kernel_rfl
  have hf : (Value.agg #[.int .i64 c, .int .i64 n]).formed Try.prog 65 = true := by
    simp only [Value.formed, Try.underlying65, hc2]
    rfl
  unfold Go.keyOf
  rw [Try.underlying65]
  simp only [hk, hf, Bool.and_self, if_true, hsz, Value.cells]
  rw [show 95 + 1 = (95 - 1) + 1 + 1 from rfl, lits_pair (95 - 1) c n hc hn]
  rfl
theorem kl_inj {c n c' n' : Int} (hc : I64 c) (hn : I64 n) (hc' : I64 c') (hn' : I64 n') (h : klP c n = klP c' n') : c = c' ∧ n = n' := by
  have h1 := key_pair c n hc hn
  rw [h] at h1
  have h2 := lawP.inj h1 (key_pair c' n' hc' hn')
  simpa using h2
theorem mapM_ok {α β : Type} (f : α → Option β) (g : α → β) : ∀ l : List α, (∀ x ∈ l, f x = some (g x)) → l.mapM f = some (l.map g)
  | [], _ => by simp
  | a :: l, h => by
    rw [List.mapM_cons, h a (by simp), mapM_ok f g l (fun x hx => h x (by simp [hx]))]
    simp
theorem lits_dig (d : Nat) (zs : List Int) (hl : zs.length = 32) (hb : B8 zs) : Try.prog.keyLits (d + 1 + 1) 29 (v8 zs) = some ((List.range 32).map (fun i => [Lit.int .u8 (zs.getD i 0)])).flatten := by
  have hc2 : Try.prog.cellsOf 29 = 32 := by kernel_rfl
  have hc1 : Try.prog.cellsOf 5 = 1 := by kernel_rfl
  unfold Program.keyLits
  simp only [Try.underlying29]
  rw [if_pos (by rw [hc2, v8_length, hl]), hc1]
  rw [mapM_ok _ (fun i => [Lit.int .u8 (zs.getD i 0)])]
  · rfl
  · intro i hi
    have hi : i < 32 := List.mem_range.1 hi
    have h1 : (List.drop (i * 1) (v8 zs)).take 1 = [.int .u8 (zs.getD i 0)] := by
      rw [Nat.mul_one, v8, List.drop_eq_getElem_cons (by simp; omega)]
      simp [List.getElem?_eq_getElem (show i < zs.length by omega)]
    rw [h1]
    have hz := hb (zs.getD i 0) (by simp [List.getElem?_eq_getElem (show i < zs.length by omega)])
    have wc : (Lit.int .u8 (zs.getD i 0)).wf = true := by
      simp [Lit.wf, IntKind.min, IntKind.max, IntKind.signed, IntKind.bits]
      simp at hz
      omega
    simp only [Program.keyLits, Try.underlying5, wc, and_self, if_true]
def klV (x : Vt) : Lit := .string (keyBytes ([.int .i64 x.k, .int .i64 x.e, .int .i64 x.v, .int .i64 x.s] ++ ((List.range 32).map (fun i => [Lit.int .u8 (x.d.getD i 0)])).flatten))
theorem lits_vote (d : Nat) (x : Vt) (hx : x.ok) : Try.prog.keyLits (d + 1 + 1 + 1) 31 x.cells = some ([.int .i64 x.k, .int .i64 x.e, .int .i64 x.v, .int .i64 x.s] ++ ((List.range 32).map (fun i => [Lit.int .u8 (x.d.getD i 0)])).flatten) := by
  have hc2 : Try.prog.cellsOf 31 = 36 := by kernel_rfl
  have hcd : Try.prog.cellsOf 29 = 32 := by kernel_rfl
  have hc1 : Try.prog.cellsOf 3 = 1 := by kernel_rfl
  have hl := hx.len
  have h1 := lits_int (d + 1) x.k hx.k
  have h2 := lits_int (d + 1) x.e hx.e
  have h3 := lits_int (d + 1) x.v hx.v
  have h4 := lits_int (d + 1) x.s hx.s
  have h5 := lits_dig d x.d hx.dl hx.db
  have ht : List.take 32 (v8 x.d) = v8 x.d := List.take_of_length_le (by rw [v8_length, hx.dl]; exact Nat.le_refl _)
  generalize ((List.range 32).map (fun i => [Lit.int .u8 (x.d.getD i 0)])).flatten = L at *
  unfold Program.keyLits
  simp only [Try.underlying31]
  rw [if_pos ⟨by rw [hc2, hl], by decide +kernel⟩]
  unfold Vt.cells
  simp only [List.mapM_cons, List.mapM_nil, hc1, hcd, List.drop_zero, List.take_succ_cons, List.take_zero, List.drop_succ_cons, ht, h1, h2, h3, h4, h5, Option.bind_eq_bind, Option.bind_some, Option.pure_def, Option.map_some, List.flatten_cons, List.flatten_nil, List.append_nil, List.cons_append, List.nil_append]
theorem key_vote (x : Vt) (hx : x.ok) : Go.keyOf Try.prog 31 (.agg x.cells.toArray) = some (klV x) := by
  have hsz : Try.prog.types.size + 1 = 95 + 1 := by kernel_rfl
  have hk : Try.prog.keyType 31 = true := by kernel_rfl
  have hc2 : Try.prog.cellsOf 31 = 36 := by kernel_rfl
  have hl := hx.len
  have hf : (Value.agg x.cells.toArray).formed Try.prog 31 = true := by
    simp only [Value.formed, Try.underlying31, hc2, List.size_toArray, hl]
    rfl
  have h1 := lits_vote (95 - 2) x hx
  unfold Go.keyOf
  rw [Try.underlying31]
  simp only [hk, hf, Bool.and_self, if_true, hsz, Value.cells]
  rw [show 95 + 1 = (95 - 2) + 1 + 1 + 1 from rfl, h1]
  rfl
theorem cells_inj {x y : Vt} (h : x.cells = y.cells) : x = y := by
  obtain ⟨a, b, c, d, e⟩ := x
  obtain ⟨a', b', c', d', e'⟩ := y
  simp only [Vt.cells, List.cons.injEq, Value.int.injEq, true_and] at h
  obtain ⟨rfl, rfl, rfl, rfl, h⟩ := h
  have : e = e' := by
    have := congrArg (List.map (fun v => match v with | Value.int _ z => z | _ => 0)) h
    simpa [v8, Function.comp_def] using this
  rw [this]
theorem klV_inj {x y : Vt} (hx : x.ok) (hy : y.ok) (h : klV x = klV y) : x = y := by
  have h1 := key_vote x hx
  rw [h] at h1
  have h2 := lawV.inj h1 (key_vote y hy)
  simp only [Value.agg.injEq] at h2
  have h3 := congrArg Array.toList h2
  exact cells_inj (by simpa using h3)
/-- elements of whatever kind -/
def anyE : Value → Option (DataW Value × List MemPlace) := fun v => some (.held v, [])
theorem own_tight {P : Program} {k : TypeId} {H : Type} {R : Value → Option (DataW H × List MemPlace)} {w : World} {b n : Nat} {D : DataW H} (h : w.ownsMap P k R b n D) : w.ownsMap P k R b (Maps.size D) D := by
  obtain ⟨es, cl, h1, h2, h3, h4⟩ := h
  refine ⟨es, cl, h1, h2, ?_, h4⟩
  rw [h4]
  show es.size ≤ List.length _
  rw [length_read]
  exact Nat.le_refl _
def MapB (w : World) (b : Nat) (st : List On) : Prop :=
  ∃ D : DataW Value, w.ownsMap Try.prog 65 anyE b st.length D ∧ Maps.size D = st.length ∧ (∀ x ∈ st, ∀ zd, D.atKey (klP x.v.k x.n) zd = .held (.agg x.sig.toArray)) ∧ ∀ kl, Maps.has D kl = true ↔ ∃ x ∈ st, kl = klP x.v.k x.n
theorem MapB.lt {w : World} {b : Nat} {st : List On} (h : MapB w b st) : b < w.heap.size := by
  obtain ⟨D, h, _⟩ := h
  exact h.lt
theorem MapB.at {w w' : World} {b : Nat} {st : List On} (h : MapB w b st) (hb : w'.heap[b]? = w.heap[b]?) : MapB w' b st := by
  obtain ⟨D, ⟨es, cl, h1, h2⟩, h3⟩ := h
  exact ⟨D, ⟨es, cl, by rw [hb]; exact h1, h2⟩, h3⟩
theorem MapB.made (w : World) : MapB (w.alloc (.map #[] 0)) w.heap.size [] :=
  ⟨_, World.ownsMap_made w Try.prog 65 anyE, rfl, by simp, fun kl => by simp [Maps.has]⟩
def sig0 : List Value := vt0.cells ++ v8 (List.replicate 16 0)
def sigOf : Option On → List Value
  | none => sig0
  | some x => x.sig
theorem zeroSig (w : World) : (zeroValue 63).run Try.prog w = .ok (.agg sig0.toArray) w := by kernel_rfl
theorem MapB.look {N : Int} {w : World} {b : Nat} {st : List On} (h : MapB w b st) (hb : Bk N st) (k n : Int) (hk : I64 k) (hn : I64 n) :
    (Instr.lookup 53 (.map (some b)) (.agg #[.int .i64 k, .int .i64 n]) true).run Try.prog w = .ok (.tuple #[.agg (sigOf (find st k n)).toArray, .bool (find st k n).isSome]) w := by
  obtain ⟨D, hown, -, hat, hhas⟩ := h
  obtain ⟨v, ps, hrun, hv⟩ := hown.look_ok lawP Try.underlying53 (zeroSig w) (zd := .held (.agg sig0.toArray)) (zp := []) rfl (key_pair k n hk hn)
  simp only [anyE, Option.some.injEq, Prod.mk.injEq] at hv
  rw [hrun]
  cases hf : find st k n with
  | none =>
    have hno : Maps.has D (klP k n) = false := by
      cases hc : Maps.has D (klP k n)
      · rfl
      · obtain ⟨x, hx, he⟩ := (hhas _).1 hc
        have hxo := hb.ok x hx
        obtain ⟨e1, e2⟩ := kl_inj hk hn hxo.v.k hxo.n he
        exact absurd ⟨e1.symm, e2.symm⟩ (find_none hf x hx)
    rw [Maps.atKey_of_not_has hno] at hv
    rw [hno]
    have := hv.1
    simp only [DataW.held.injEq] at this
    rw [this]
    rfl
  | some x =>
    obtain ⟨hx, e1, e2⟩ := find_some hf
    have h1 := hat x hx (.held (.agg sig0.toArray))
    rw [e1, e2] at h1
    have h2 : Maps.has D (klP k n) = true := (hhas _).2 ⟨x, hx, by rw [e1, e2]⟩
    rw [h1] at hv
    rw [h2]
    have := hv.1
    simp only [DataW.held.injEq] at this
    rw [this]
    rfl
theorem MapB.store {N : Int} {w : World} {b : Nat} {st : List On} (h : MapB w b st) (hb : Bk N st) (x : On) (hx : x.ok) (hm : st.length < 1000000) :
    ∃ w', (Instr.mapUpdate 53 (.map (some b)) (.agg #[.int .i64 x.v.k, .int .i64 x.n]) (.agg x.sig.toArray)).run Try.prog w = .ok () w' ∧ MapB w' b (putL st x) ∧ w.grownBy w' (some b) := by
  obtain ⟨D, hown, hsz, hat, hhas⟩ := h
  have hkey := key_pair x.v.k x.n hx.v.k hx.n
  obtain ⟨w', hrun, h1, h2⟩ := hown.store lawP Try.underlying53 (by unfold maxLen; omega) hkey (val := .agg x.sig.toArray) (d := .held (.agg x.sig.toArray)) (ps := []) rfl
  have hs : Maps.has D (klP x.v.k x.n) = (find st x.v.k x.n).isSome := by
    cases hf : find st x.v.k x.n with
    | none =>
      cases hc : Maps.has D (klP x.v.k x.n)
      · rfl
      · obtain ⟨y, hy, he⟩ := (hhas _).1 hc
        have hyo := hb.ok y hy
        obtain ⟨e1, e2⟩ := kl_inj hx.v.k hx.n hyo.v.k hyo.n he
        exact absurd ⟨e1.symm, e2.symm⟩ (find_none hf y hy)
    | some y =>
      obtain ⟨hy, e1, e2⟩ := find_some hf
      exact (hhas _).2 ⟨y, hy, by rw [e1, e2]⟩
  have hsize : Maps.size (D.put (klP x.v.k x.n) (.held (.agg x.sig.toArray))) = (putL st x).length := by
    rw [Maps.size_put (hown.tidy lawP), hs, hsz]
    unfold putL
    cases find st x.v.k x.n <;> simp
  have hput : ∀ y, y ∈ putL st x ↔ (y = x ∨ (y ∈ st ∧ ¬ (y.v.k = x.v.k ∧ y.n = x.n))) := fun y => by
    constructor
    · intro hy
      have hf := find_mem (put_uniq hb.uniq x) hy
      rw [find_put] at hf
      split at hf
      · exact .inl (Option.some.inj hf).symm
      · rename_i hne
        exact .inr ⟨(find_some hf).1, hne⟩
    · intro hy
      rcases hy with rfl | ⟨hy, hne⟩
      · have : find (putL st y) y.v.k y.n = some y := by rw [find_put, if_pos ⟨rfl, rfl⟩]
        exact (find_some this).1
      · have : find (putL st x) y.v.k y.n = some y := by rw [find_put, if_neg hne]; exact find_mem hb.uniq hy
        exact (find_some this).1
  have hne : ∀ y ∈ st, ¬ (y.v.k = x.v.k ∧ y.n = x.n) → klP y.v.k y.n ≠ klP x.v.k x.n := fun y hy hn he =>
    hn (kl_inj (hb.ok y hy).v.k (hb.ok y hy).n hx.v.k hx.n he)
  refine ⟨w', hrun, ⟨_, by rw [← hsize]; exact own_tight h1, hsize, fun y hy zd => ?_, fun kl => ?_⟩, h2.grown⟩
  · rcases (hput y).1 hy with rfl | ⟨hy, hn⟩
    · exact Maps.atKey_put_same hown.isMap (lawP.key hkey) _ _
    · rw [Maps.atKey_put_other (hne y hy hn)]
      exact hat y hy zd
  · by_cases he : kl = klP x.v.k x.n
    · subst he
      rw [Maps.has_put_same hown.isMap (lawP.key hkey)]
      exact ⟨fun _ => ⟨x, (hput x).2 (.inl rfl), rfl⟩, fun _ => rfl⟩
    · rw [Maps.has_put_other he, hhas]
      constructor
      · rintro ⟨y, hy, rfl⟩
        exact ⟨y, (hput y).2 (.inr ⟨hy, fun q => he (by rw [q.1, q.2])⟩), rfl⟩
      · rintro ⟨y, hy, rfl⟩
        rcases (hput y).1 hy with rfl | ⟨hy, _⟩
        · exact absurd rfl he
        · exact ⟨y, hy, rfl⟩
/-- a book -/
structure BookAt (w : World) (B b : Nat) (N : Int) (st : List On) : Prop where
  lt : B < w.heap.size
  c0 : w.cell? ⟨B, 0, none⟩ = some (.int .i64 N)
  c1 : w.cell? ⟨B, 1, none⟩ = some (.map (some b))
  m : MapB w b st
  bk : Bk N st
theorem BookAt.ne {w : World} {B b : Nat} {N : Int} {st : List On} (h : BookAt w B b N st) : b ≠ B := by
  rintro rfl
  obtain ⟨D, ⟨es, cl, h1, _⟩, _⟩ := h.m
  have := h.c0
  simp [World.cell?, h1] at this
theorem BookAt.at {w w' : World} {B b : Nat} {N : Int} {st : List On} (h : BookAt w B b N st) (hs : w.heap.size ≤ w'.heap.size) (h1 : w'.heap[B]? = w.heap[B]?) (h2 : w'.heap[b]? = w.heap[b]?) : BookAt w' B b N st := by
  refine ⟨Nat.lt_of_lt_of_le h.lt hs, ?_, ?_, h.m.at h2, h.bk⟩
  · rw [← h.c0]; simp [World.cell?, h1]
  · rw [← h.c1]; simp [World.cell?, h1]
theorem BookAt.below {w w' : World} {B b : Nat} {N : Int} {st : List On} (h : BookAt w B b N st) (hb : Below w.heap.size w w') : BookAt w' B b N st := h.at hb.size (hb.block _ h.lt) (hb.block _ h.m.lt)
theorem wpList_lookup_eq {P : Program} {w : World} {ops : Array Oper} {rest : List Oper} {o : Oper} {a : Act} {Q : Exit → Act → World → Prop} (hg : o.guard = none) (m x : Operand) (t : TypeId) (c : Bool) (hop : o.op = Op.lookup t m x c) (mv kv v : Value) (hm : a.eval m = mv) (hx : a.eval x = kv)
    (hrun : (Instr.lookup t mv kv c).run P w = .ok v w) (hK : wpList P ops Q rest (a.put o.dst v) w) : wpList P ops Q (o :: rest) a w := by
  refine wpList_plain hg fun K' hK' => ?_
  unfold Oper.wp
  simp [execOp, hop, hm, hx, hrun, Result.andThen]
  exact hK' _ _ hK
end Go.Proofs.Ytogmkcabndgllaa
