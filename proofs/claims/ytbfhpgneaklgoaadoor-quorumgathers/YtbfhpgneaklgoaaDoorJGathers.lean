/- how many signs are right ahead of the first wrong one quorum.right: the contract quorum.Check: the contract signs gathered one by one: what Check says of them the law of gathered signs: the walk For every number, every body, every list of numbers and every need, raddlelaw05.QuorumGathers returns true and leaves its arguments as they read: signs that were gathered one by one, in whatever order, again and again, are taken just if there are enough unlike nodes. Conditions: none beyond the row's own; the card ties the tables 'starts' and 'roots' of package digest to the program's text (of the pruned copy of the project). -/
import Derived.Test.YtbfhpgneaklgoaaDoorSg1
import Derived.Test.YtbfhpgneaklgoaaDoorSq1
import Derived.Test.YtbfhpgneaklgoaaDoorSq2
import Derived.Test.YtbfhpgneaklgoaaDoorSq3
import Derived.WalkMore
import Derived.Scope
import Derived.Test.YtbfhpgneaklgoaaDoorNth
import Derived.Test.YtbfhpgneaklgoaaDoorFrame
namespace Go.Proofs.YtbfhpgneaklgoaaDoor
open Go Go.RowKit
def lastN (ah : Int) : List Sg → Int
  | [] => ah
  | x :: l => lastN x.n l
theorem lastN_snoc (x : Sg) : ∀ (l : List Sg) (ah : Int), lastN ah (l ++ [x]) = x.n
  | [], _ => rfl
  | y :: l, _ => lastN_snoc x l y.n
def runOf (ok : Sg → Bool) (n : Int) : Int → List Sg → Nat
  | _, [] => 0
  | ah, x :: l => if x.n ≤ ah ∨ n ≤ x.n then 0 else if ok x then runOf ok n x.n l + 1 else 0
theorem runOf_le (ok : Sg → Bool) (n : Int) : ∀ (l : List Sg) (ah : Int), runOf ok n ah l ≤ l.length
  | [], _ => Nat.le_refl _
  | x :: l, ah => by
    have := runOf_le ok n l x.n
    unfold runOf
    split
    · simp
    · split <;> simp; omega
theorem run_whole {ok : Sg → Bool} {n ah : Int} {x : Sg} {l : List Sg} (h : runOf ok n ah (x :: l) = (x :: l).length) : ¬ (x.n ≤ ah ∨ n ≤ x.n) ∧ ok x = true ∧ runOf ok n x.n l = l.length := by
  unfold runOf at h
  split at h
  · simp at h
  · rename_i hb
    split at h
    · rename_i ho
      exact ⟨hb, ho, by simpa using h⟩
    · simp at h
theorem run_cut {ok : Sg → Bool} {n : Int} {x : Sg} (t : List Sg) : ∀ (m : List Sg) (ah : Int), runOf ok n ah m = m.length → (x.n ≤ lastN ah m ∨ n ≤ x.n ∨ ok x = false) → runOf ok n ah (m ++ x :: t) = m.length
  | [], ah, _, hb => by
    simp only [List.nil_append, List.length_nil, lastN] at hb ⊢
    unfold runOf
    split
    · rfl
    · rename_i h1
      split
      · rename_i h2
        rcases hb with hb | hb | hb
        · exact (h1 (.inl hb)).elim
        · exact (h1 (.inr hb)).elim
        · rw [hb] at h2; cases h2
      · rfl
  | y :: m, ah, hm, hb => by
    obtain ⟨h1, h2, h3⟩ := run_whole hm
    have := run_cut t m y.n h3 hb
    rw [List.cons_append, runOf, if_neg h1, if_pos h2, this]
    rfl
theorem run_snoc {ok : Sg → Bool} {n : Int} {x : Sg} : ∀ (m : List Sg) (ah : Int), runOf ok n ah m = m.length → ¬ x.n ≤ lastN ah m → ¬ n ≤ x.n → ok x = true → runOf ok n ah (m ++ [x]) = (m ++ [x]).length
  | [], ah, _, h1, h2, h3 => by
    simp only [lastN] at h1
    show runOf ok n ah [x] = 1
    rw [runOf, if_neg (fun h => h.elim h1 h2), if_pos h3]
    rfl
  | y :: m, ah, hm, h1, h2, h3 => by
    obtain ⟨g1, g2, g3⟩ := run_whole hm
    have := run_snoc m y.n g3 h1 h2 h3
    rw [List.cons_append, runOf, if_neg g1, if_pos g2, this]
    rfl
/-- the signs at places -/
def atF (rs : List Sg) (l : List (Fin rs.length)) : List Sg := l.map (fun i => rs[i.val])
theorem atF_snoc (rs : List Sg) (l : List (Fin rs.length)) (x : Fin rs.length) : atF rs (l ++ [x]) = atF rs l ++ [rs[x.val]] := by simp [atF]
theorem atF_length (rs : List Sg) (l : List (Fin rs.length)) : (atF rs l).length = l.length := by simp [atF]
theorem atF_all (rs : List Sg) : atF rs (List.finRange rs.length) = rs := by
  refine List.ext_getElem (by simp [atF]) fun i h1 h2 => ?_
  simp [atF]
theorem run_stop {ok : Sg → Bool} {n : Int} {rs : List Sg} {m : List (Fin rs.length)} {x : Fin rs.length} (hp : m ++ [x] <+: List.finRange rs.length) (hm : runOf ok n (-1) (atF rs m) = m.length)
    (hb : rs[x.val].n ≤ lastN (-1) (atF rs m) ∨ n ≤ rs[x.val].n ∨ ok rs[x.val] = false) : runOf ok n (-1) rs = m.length := by
  obtain ⟨t, ht⟩ := hp
  have e := atF_all rs
  rw [← ht] at e
  have e2 : atF rs m ++ rs[x.val] :: atF rs t = rs := by simpa [atF] using e
  have := run_cut (atF rs t) (atF rs m) (-1) (by rw [hm, atF_length]) hb
  rw [e2, atF_length] at this
  exact this
end Go.Proofs.YtbfhpgneaklgoaaDoor
namespace Go.Proofs.YtbfhpgneaklgoaaDoor
open Go.RowKit Go.Shelf
open Sha Tal
attribute [local go_sem] Oper.semAt_some
def okS (ds : List (List Int)) (body : ByteArray) (s : Sg) : Bool := checkOf (signOf ds s.n body) s.t
/-- the boxes of right -/
structure RB (W : World) (A : Nat) (p : Option Addr) (n : Int) (body : ByteArray) (SV : Value) (c ah : Int) : Prop where
  b0 : Boxed W A 24 (.pointer p)
  b1 : Boxed W (A + 1) 3 (.int .i64 n)
  b2 : Boxed W (A + 2) 9 (.string body)
  b3 : Boxed W (A + 3) 22 SV
  b4 : Boxed W (A + 4) 3 (.int .i64 c)
  b5 : Boxed W (A + 5) 3 (.int .i64 ah)
  b6 : Boxed W (A + 6) 22 SV
theorem boxed_below {W W' : World} {B : Nat} {t : TypeId} {v : Value} (h : Boxed W B t v) (hb : Below W.heap.size W W') : Boxed W' B t v := (hb.block B h.lt).trans h
theorem RB.below {W W' : World} {A : Nat} {p : Option Addr} {n : Int} {body : ByteArray} {SV : Value} {c ah : Int} (h : RB W A p n body SV c ah) (hb : Below W.heap.size W W') : RB W' A p n body SV c ah :=
  ⟨boxed_below h.b0 hb, boxed_below h.b1 hb, boxed_below h.b2 hb, boxed_below h.b3 hb, boxed_below h.b4 hb, boxed_below h.b5 hb, boxed_below h.b6 hb⟩
theorem RB.own {β : Type} (A : Nat) (p : Option Addr) (n : Int) (body : ByteArray) (SV : Value) (c ah : β → Int) : Own (fun s W => RB W A p n body SV (c s) (ah s)) := by
  rintro s X Y row h hg hrow
  have key : ∀ {B : Nat} {t : TypeId} {v : Value}, Boxed X B t v → Boxed Y B t v := fun {B} {t} {v} hv => by
    refine hv.kept hg (fun e' => ?_)
    obtain ⟨o, ho, hc⟩ := hrow B e'.symm
    rw [show X.heap[B]? = _ from hv] at ho; cases ho; cases hc
  exact ⟨key h.b0, key h.b1, key h.b2, key h.b3, key h.b4, key h.b5, key h.b6⟩
theorem RB.step {W : World} {A : Nat} {p : Option Addr} {n : Int} {body : ByteArray} {SV : Value} {c ah : Int} (h : RB W A p n body SV c ah) (c' ah' : Int) :
    RB ((W.setCell ⟨A + 4, 0, none⟩ (.int .i64 c')).setCell ⟨A + 5, 0, none⟩ (.int .i64 ah')) A p n body SV c' ah' :=
  ⟨(h.b0.other (by omega) _).other (by omega) _, (h.b1.other (by omega) _).other (by omega) _, (h.b2.other (by omega) _).other (by omega) _, (h.b3.other (by omega) _).other (by omega) _,
   ((h.b4.set _)).other (by omega) _, ((h.b5.other (by omega) _).set _), (h.b6.other (by omega) _).other (by omega) _⟩
theorem below_keepsFrom {W W' : World} (h : Below W.heap.size W W') (B : Nat) : KeepsFrom B W W' :=
  ⟨h.size, fun k _ _ hk _ => (h.block k (Array.getElem?_eq_some_iff.1 hk).1).trans hk⟩
theorem SigsAt.lo {w : World} {a : Option Addr} {rs : List Sg} (h : SigsAt w a rs) : rs = [] ∨ ∀ x, a = some x → x.block < w.heap.size := by
  rcases h.2.2 with h | ⟨b, off, rfl, h1, h2⟩
  · exact Or.inl h
  · exact Or.inr fun x e => by cases e; exact h1
theorem Boxed.at {W : World} {t : TypeId} {v : Value} {B : Nat} (h : W.heap.size = B) : Boxed (W.alloc (.cells #[v] t)) B t v := by rw [← h]; exact Boxed.new W t v
theorem keepsFrom_set {W W' : World} {B j : Nat} (h : KeepsFrom B W W') (hj : j < B) (v : Value) : KeepsFrom B W (W'.setCell ⟨j, 0, none⟩ v) :=
  ⟨by simpa using h.1, fun k o hk h1 h2 => (Below.heap_setCell _ _ _ k (by show k ≠ j; omega)).trans (h.2 k o hk h1 h2)⟩
theorem cell_other45 (w : World) (A : Nat) (v : Value) : (w.setCell ⟨A + 4, 0, none⟩ v).cell? ⟨A + 5, 0, none⟩ = w.cell? ⟨A + 5, 0, none⟩ := World.cell?_of_block (Below.heap_setCell _ _ _ (A + 5) (by show A + 5 ≠ A + 4; omega))
theorem RB.new (w : World) (p : Option Addr) (n : Int) (body : ByteArray) (SV : Value) :
    RB (((((((w.alloc (.cells #[.pointer p] 24)).alloc (.cells #[.int .i64 n] 3)).alloc (.cells #[.string body] 9)).alloc (.cells #[SV] 22)).alloc (.cells #[.int .i64 0] 3)).alloc (.cells #[.int .i64 (-1)] 3)).alloc (.cells #[SV] 22)) w.heap.size p n body SV 0 (-1) :=
  ⟨((((((Boxed.at rfl).alloc _).alloc _).alloc _).alloc _).alloc _).alloc _, (((((Boxed.at (by simp)).alloc _).alloc _).alloc _).alloc _).alloc _, ((((Boxed.at (by simp)).alloc _).alloc _).alloc _).alloc _,
   (((Boxed.at (by simp)).alloc _).alloc _).alloc _, ((Boxed.at (by simp)).alloc _).alloc _, (Boxed.at (by simp)).alloc _, Boxed.at (by simp)⟩
set_option maxRecDepth 100000 in
set_option maxHeartbeats 4000000 in
theorem right_in (m : Nat) (hn : 3 ≤ m) (p : Option Addr) (ds : List (List Int)) (n : Int) (body : ByteArray) (a : Option Addr) (cap : Nat) (rs : List Sg) (hlr : rs.length ≤ 100000) (w : World) (hG : Glob w) (hk : KeysAt w p ds) (hbd : ds = [] ∨ body.size ≤ 100000) (hat : SigsAt w a rs) :
    CallsIn Fence.wide m Tryd.prog 21 #[.pointer p, .int .i64 n, .string body, .slice a rs.length cap] w fun e W' => e = .returned (.int .i64 (runOf (okS ds body) n (-1) rs : Int)) ∧ Below w.heap.size w W' := by
  have h1 : 1 ≤ m := by omega
  have hro : Fence.wide.round = none := rfl
  have cA := signers_in Fence.wide (m - 1) trivial hro a rs.length cap
  have HAT := hide hat
  have HK := hide hk
  have HG := hide hG
  have HBD := hide hbd
  clear hat hk hG hbd
  refine callsIn_of_wp_marks Tryd.func21 rfl trivial ?_ hro
  simp only [Tryd.ntmps21, List.size_toArray, List.length_cons, List.length_nil, Nat.reduceAdd, Nat.reduceSub, Array.replicate_succ, Array.replicate_zero, List.push_toArray, List.append_toArray, List.nil_append, List.cons_append]
  gi_wp2
  refine wpIn_wide.2 (wp_scope_straight ((wpIn_wide (n := m)).1 ?_))
  gi_wp2
  refine wpIn_label ?_
  gi_wp2_with (refine And.intro trivial ?_; gi_at_call 37; refine (cA _).mono ?_; rintro e w2 ⟨rfl, rfl⟩)
  clear cA
  simp only [Nat.add_assoc, Nat.reduceAdd]
  have bx := RB.new w p n body (.slice a rs.length cap)
  have hB3 : Below w.heap.size w (((((((w.alloc (.cells #[.pointer p] 24)).alloc (.cells #[.int .i64 n] 3)).alloc (.cells #[.string body] 9)).alloc (.cells #[.slice a rs.length cap] 22)).alloc (.cells #[.int .i64 0] 3)).alloc (.cells #[.int .i64 (-1)] 3)).alloc (.cells #[.slice a rs.length cap] 22)) :=
    (((((((Below.refl _ w).alloc (Nat.le_refl _) _).alloc (by simp) _).alloc (by simp; omega) _).alloc (by simp; omega) _).alloc (by simp; omega) _).alloc (by simp; omega) _).alloc (by simp; omega) _
  have hsz : (((((((w.alloc (.cells #[.pointer p] 24)).alloc (.cells #[.int .i64 n] 3)).alloc (.cells #[.string body] 9)).alloc (.cells #[.slice a rs.length cap] 22)).alloc (.cells #[.int .i64 0] 3)).alloc (.cells #[.int .i64 (-1)] 3)).alloc (.cells #[.slice a rs.length cap] 22)).heap.size = w.heap.size + 7 := by simp
  obtain ⟨w3, hw3⟩ : ∃ w3, Hid ((((((((w.alloc (.cells #[.pointer p] 24)).alloc (.cells #[.int .i64 n] 3)).alloc (.cells #[.string body] 9)).alloc (.cells #[.slice a rs.length cap] 22)).alloc (.cells #[.int .i64 0] 3)).alloc (.cells #[.int .i64 (-1)] 3)).alloc (.cells #[.slice a rs.length cap] 22)) = w3) := ⟨_, hide rfl⟩
  rw [hw3.out] at bx hB3 hsz ⊢
  have hbs : w.heap.size + 6 < w3.heap.size := by omega
  have hws : w.heap.size ≤ w3.heap.size := by omega
  clear hw3 hsz
  obtain ⟨A, hA⟩ : ∃ A, Hid (w.heap.size = A) := ⟨_, hide rfl⟩
  rw [hA.out] at bx hB3 hbs hws ⊢
  have ST := signersF_stops Fence.wide (m - 1) trivial hro (by omega) (A + 6) A a cap rs hlr w3 hbs hws bx.b6.cell (HAT.out.below (by rw [hA.out]; exact hB3)) (by have := HAT.out.lo; rw [hA.out] at this; exact this)
  refine wpIn_rangeFunc_ownG hro h1 (gf := 49) (lb := #[.pointer (some ⟨A + 6, 0, none⟩)]) rfl trivial (enters_of Tryd.func49 (by kernel_rfl) rfl)
    ST (fun h k => h.tr k) (keepsB_b hws hbs) (Below.refl _ _) (fun _ => rfl)
    (fun pre W => RB W A p n body (.slice a rs.length cap) (pre.length : Int) (lastN (-1) (atF rs pre)) ∧ Below A w W ∧ runOf (okS ds body) n (-1) (atF rs pre) = pre.length)
    (fun c xs W => c = .exit 0 ∧ ∃ (mm : List (Fin rs.length)) (x : Fin rs.length), xs = mm ++ [x] ∧ RB W A p n body (.slice a rs.length cap) (mm.length : Int) (lastN (-1) (atF rs mm)) ∧ Below A w W ∧ runOf (okS ds body) n (-1) (atF rs mm) = mm.length ∧ (rs[x.val].n ≤ lastN (-1) (atF rs mm) ∨ n ≤ rs[x.val].n ∨ okS ds body rs[x.val] = false))
    (OwnFrom.and (Own.from (RB.own A p n body (.slice a rs.length cap) (fun pre : List (Fin rs.length) => (pre.length : Int)) (fun pre => lastN (-1) (atF rs pre))) _) (OwnFrom.and (ownFrom_below (by rw [hA.out]; exact Nat.le_refl _) hws) (fun _ _ _ _ h _ _ => h)))
    (fun c s X Y row h hg hrow => by
      obtain ⟨hc, mm, x, e, hb, hB, hr⟩ := h
      exact ⟨hc, mm, x, e, (RB.own (β := Unit) A p n body (.slice a rs.length cap) (fun _ => _) (fun _ => _)) () X Y row hb hg (fun r er => (hrow r er).2), hB.grown hg (by have := hb.b6.lt; omega) (fun k ek => Nat.le_trans hws (hrow k ek).1), hr⟩)
    ⟨bx, hB3, rfl⟩
    (fun x => { tmps := #[.pointer p, .int .i64 n, .string body, .slice a rs.length cap, .pointer (some ⟨A, 0, none⟩), .pointer (some ⟨A + 1, 0, none⟩), .pointer (some ⟨A + 2, 0, none⟩), .pointer (some ⟨A + 3, 0, none⟩), .int .i64 0, .pointer (some ⟨A + 4, 0, none⟩), .pointer (some ⟨A + 5, 0, none⟩), .int .i64 (x.val : Int), .int .i64 (rs[x.val].n), .slice a rs.length cap, .func (.func 49) #[] #[.pointer (some ⟨A + 6, 0, none⟩)], .int .i64 (x.val : Int), .int .i64 (rs[x.val].n), undef, undef, undef, undef, undef, undef, undef, undef, undef, undef, undef, undef, undef, undef, undef, undef, undef, undef, undef, undef, undef, undef], defers := [] }) ?assign ?body ?done ?stop
  case assign =>
    intro l x W K hK
    gi_wp2
    exact hK
  case body =>
    rintro l pre x W ⟨hbx, hB, hrun⟩ hlt
    have c5 := hbx.b5.cell
    have c1 := hbx.b1.cell
    obtain ⟨N, hN⟩ : ∃ N, Hid (rs[x.val].n = N) := ⟨_, hide rfl⟩
    obtain ⟨ah, hah⟩ : ∃ N, Hid (lastN (-1) (atF rs pre) = N) := ⟨_, hide rfl⟩
    have HBX := hide hbx
    have HR := hide hrun
    rw [hah.out] at c5
    rw [hN.out]
    clear hbx hrun
    by_cases g1 : N ≤ ah
    · gi_wp2
      exact ⟨below_keepsFrom (Below.refl _ _) _, rfl, pre, x, rfl, HBX.out, hB, HR.out, .inl (by rw [hN.out, hah.out]; exact g1)⟩
    by_cases g2 : n ≤ N
    · gi_wp2
      exact ⟨below_keepsFrom (Below.refl _ _) _, rfl, pre, x, rfl, HBX.out, hB, HR.out, .inr (.inl (by rw [hN.out]; exact g2))⟩
    have hlx := x.isLt
    have k1 : (x.val : Int) < rs.length := by omega
    obtain ⟨b, off, rfl, hb, hre⟩ := (HAT.out.below (by rw [hA.out]; exact hB)).elem x.val hlx
    have hok : rs[x.val].ok := HAT.out.2.1 _ (List.getElem_mem hlx)
    obtain ⟨r, hr⟩ : ∃ r, Hid (rs[x.val] = r) := ⟨_, hide rfl⟩
    have cs := fun w0 g0 k0 => signed_any p ds body r w0 g0 k0 HBD.out (by rw [← hr.out]; exact hok)
    have HOK : Hid (okS ds body rs[x.val] = checkOf (signOf ds r.n body) r.t) := hide (by rw [hr.out]; rfl)
    have hiu : (Tryd.prog.info? 43).map (·.size) = some r.cells.length := by rw [← hr.out]; exact hok.isz
    rw [hr.out] at hre
    obtain ⟨u, hu⟩ : ∃ u, Hid (r.cells = u) := ⟨_, hide rfl⟩
    rw [hu.out] at hre hiu
    simp only [hu.out] at cs
    obtain ⟨B, hBe⟩ : ∃ B, Hid (checkOf (signOf ds r.n body) r.t = B) := ⟨_, hide rfl⟩
    simp only [hBe.out] at cs
    rw [hBe.out] at HOK
    have c0 := HBX.out.b0.cell
    have c2 := HBX.out.b2.cell
    have c3 := HBX.out.b3.cell
    have c4 := HBX.out.b4.cell
    have l0 := HBX.out.b0.lt
    have l2 := HBX.out.b2.lt
    have l3 := HBX.out.b3.lt
    clear hok hu hBe
    gi_upto_region 6 with fail
    obtain ⟨w5, hw5⟩ : ∃ w5, W.drew = w5 := ⟨_, rfl⟩
    have hW5 : Below W.heap.size W w5 := by rw [← hw5]; exact (Below.refl _ _).drew
    refine hi_begin (S := (Below w5.heap.size w5)) 9 rfl (by kernel_rfl) (by kernel_rfl) (fun ⟨_, _, h⟩ => h) ?_
    rw [hw5]
    have hre5 := range_below hre hW5 hb
    have hb5 := Nat.lt_of_lt_of_le hb hW5.size
    have c0' := (hW5.cell (p := ⟨A, 0, none⟩) l0).trans c0
    have c2' := (hW5.cell (p := ⟨A + 2, 0, none⟩) l2).trans c2
    have c3' := (hW5.cell (p := ⟨A + 3, 0, none⟩) l3).trans c3
    have l0' := Nat.lt_of_lt_of_le l0 hW5.size
    have l2' := Nat.lt_of_lt_of_le l2 hW5.size
    have l3' := Nat.lt_of_lt_of_le l3 hW5.size
    have hBw5 : Below A w w5 := hB.trans (hW5.mono (by have := HBX.out.b0.lt; omega))
    clear c0 c2 c3 l0 l2 l3 hre hb c4 c5 c1
    have hS : (Below w5.heap.size w5) w5 := Below.refl _ _
    refine hs_take (i := 0) (d := some 27) (v := ?_) rfl (by kernel_rfl) (by kernel_rfl) (by kernel_rfl) (by rfl) ?_ hS rfl ?_
    rotate_left
    · intro w' hw
      have hc := (hw.cell (p := ⟨A, 0, none⟩) l0').trans c0'
      go_simp
      try with_reducible rfl
    simp only [Act.put, List.setIfInBounds_toArray, List.set_cons_zero, List.set_cons_succ]
    refine hs_take (i := 1) (d := some 28) (v := ?_) rfl (by kernel_rfl) (by kernel_rfl) (by kernel_rfl) (by rfl) ?_ hS rfl ?_
    rotate_left
    · intro w' hw
      have hc := (hw.cell (p := ⟨A + 2, 0, none⟩) l2').trans c2'
      go_simp
      try with_reducible rfl
    simp only [Act.put, List.setIfInBounds_toArray, List.set_cons_zero, List.set_cons_succ]
    refine hs_take (i := 2) (d := some 29) (v := ?_) rfl (by kernel_rfl) (by kernel_rfl) (by kernel_rfl) (by rfl) ?_ hS rfl ?_
    rotate_left
    · intro w' hw
      have hc := (hw.cell (p := ⟨A + 3, 0, none⟩) l3').trans c3'
      go_simp
      try with_reducible rfl
    simp only [Act.put, List.setIfInBounds_toArray, List.set_cons_zero, List.set_cons_succ]
    refine hs_take (i := 3) (d := some 30) (v := ?_) rfl (by kernel_rfl) (by kernel_rfl) (by kernel_rfl) (by rfl) ?_ hS rfl ?_
    rotate_left
    · intro w' hw
      go_simp
      try with_reducible rfl
    simp only [Act.put, List.setIfInBounds_toArray, List.set_cons_zero, List.set_cons_succ]
    refine hs_take (i := 4) (d := some 31) (v := ?_) rfl (by kernel_rfl) (by kernel_rfl) (by kernel_rfl) (by rfl) ?_ hS rfl ?_
    rotate_left
    · intro w' hw
      go_simp
      try with_reducible rfl
    simp only [Act.put, List.setIfInBounds_toArray, List.set_cons_zero, List.set_cons_succ]
    refine hs_take (i := 5) (d := some 32) (v := .agg u.toArray) rfl (by kernel_rfl) (by kernel_rfl) (by kernel_rfl) (by rfl) (fun w' hw => exec_load rfl rfl (run_loadVar_mid (P := Tryd.prog) w' b (off + x.val * 17) 43 u _ (range_below hre5 hw hb5) Tryd.underlying43 rfl hiu)) hS rfl ?_
    simp only [Act.put, List.setIfInBounds_toArray, List.set_cons_zero, List.set_cons_succ]
    refine hs_call (i := 6) (d := some 33) rfl (by kernel_rfl) (by rfl) (by go_simp; first | done | exact ⟨rfl, rfl⟩ | with_reducible rfl) rfl ?_
    refine (cs w5 (HG.out.below (by rw [hA.out]; exact hBw5)) (HK.out.below (by rw [hA.out]; exact hBw5))).mono ?_
    rintro e' w6 ⟨rfl, hw6⟩
    have hS : (Below w5.heap.size w5) w6 := hw6
    refine ⟨_, rfl, hS, ?_⟩
    simp only [Act.put, List.setIfInBounds_toArray, List.set_cons_zero, List.set_cons_succ]
    have hW6 : Below W.heap.size W w6 := hW5.trans (hw6.mono hW5.size)
    have HB6 := hide (HBX.out.below hW6)
    have d4 := HB6.out.b4.cell
    have f4 := HB6.out.b4.frozen
    have d5 := HB6.out.b5.cell
    have f5 := HB6.out.b5.frozen
    have q45 := cell_other45 w6 A
    rw [hah.out] at d5
    have hBA : Below A W w6 := hW6.mono (by have := HBX.out.b0.lt; omega)
    have hBw6 : Below A w w6 := hB.trans hBA
    have hpl : pre.length < rs.length := hlt
    clear hlt c0' c2' c3' l0' l2' l3' hre5 hb5 hw5 cs hiu
    cases B
    · refine hs_take (i := 7) (d := some 34) (v := ?_) rfl (by kernel_rfl) (by kernel_rfl) (by kernel_rfl) (by rfl) ?_ hS rfl ?_
      rotate_left
      · intro w' hw
        go_simp
        try with_reducible rfl
      simp only [Act.put, List.setIfInBounds_toArray, List.set_cons_zero, List.set_cons_succ]
      refine hs_take (i := 8) (d := some 26) (v := ?_) rfl (by kernel_rfl) (by kernel_rfl) (by kernel_rfl) (by rfl) ?_ hS rfl ?_
      rotate_left
      · intro w' hw
        go_simp
        try with_reducible rfl
      simp only [Act.put, List.setIfInBounds_toArray, List.set_cons_zero, List.set_cons_succ]
      refine hs_done (by kernel_rfl) ?_
      gi_wp2
      exact ⟨below_keepsFrom hW6 _, rfl, pre, x, rfl, HB6.out, hBw6, HR.out, .inr (.inr HOK.out)⟩
    · refine hs_take (i := 7) (d := some 34) (v := ?_) rfl (by kernel_rfl) (by kernel_rfl) (by kernel_rfl) (by rfl) ?_ hS rfl ?_
      rotate_left
      · intro w' hw
        go_simp
        try with_reducible rfl
      simp only [Act.put, List.setIfInBounds_toArray, List.set_cons_zero, List.set_cons_succ]
      refine hs_take (i := 8) (d := some 26) (v := ?_) rfl (by kernel_rfl) (by kernel_rfl) (by kernel_rfl) (by rfl) ?_ hS rfl ?_
      rotate_left
      · intro w' hw
        go_simp
        try with_reducible rfl
      simp only [Act.put, List.setIfInBounds_toArray, List.set_cons_zero, List.set_cons_succ]
      refine hs_done (by kernel_rfl) ?_
      gi_wp2
      have HST := HB6.out.step ((pre.length : Int) + 1) N
      have e1 : ((pre ++ [x]).length : Int) = (pre.length : Int) + 1 := by rw [List.length_append]; rfl
      have e2 : lastN (-1) (atF rs (pre ++ [x])) = N := by rw [atF_snoc, lastN_snoc]; exact hN.out
      refine ⟨keepsFrom_set (keepsFrom_set (below_keepsFrom hW6 _) (by omega) _) (by omega) _, ⟨(hBA.setCell (p := ⟨A + 4, 0, none⟩) (by show A ≤ A + 4; omega) _).setCell (p := ⟨A + 5, 0, none⟩) (by show A ≤ A + 5; omega) _, fun _ => HST.b6.trans HBX.out.b6.symm⟩, ?_, (hBw6.setCell (p := ⟨A + 4, 0, none⟩) (by show A ≤ A + 4; omega) _).setCell (p := ⟨A + 5, 0, none⟩) (by show A ≤ A + 5; omega) _, ?_⟩
      · rw [e1, e2]; exact HST
      · rw [atF_snoc, run_snoc (atF rs pre) (-1) (by rw [HR.out, atF_length]) (by rw [hN.out, hah.out]; omega) (by rw [hN.out]; omega) HOK.out, List.length_append, List.length_append, atF_length]; rfl
  case done =>
    rintro D ys W hD rfl ⟨hbx, hB, hrun⟩ hK
    rw [List.length_finRange] at hbx hrun
    rw [atF_all] at hrun
    have hc := hbx.b4.cell
    gi_wp2
    refine ⟨by simp, .inl ⟨_, _, rfl, run_takeDeferred hK, ?_⟩⟩
    exact ⟨_, results_tmp rfl _ _ _, by rw [hrun]; rfl, by rw [hA.out]; exact hB.trans (belowK_b (w := w) (by rw [hA.out]; exact Nat.le_refl _) W D _ _ (by rw [hA.out]; omega) hK rfl rfl)⟩
  case stop =>
    rintro D c pre W hD hpre ⟨rfl, mm, x, rfl, hbx, hB, hrun, hbad⟩ hK
    have hst := run_stop hpre hrun hbad
    have hc := hbx.b4.cell
    gi_wp2
    refine ⟨by simp, .inl ⟨_, _, rfl, run_takeDeferred hK, ?_⟩⟩
    exact ⟨_, results_tmp rfl _ _ _, by rw [hst]; rfl, by rw [hA.out]; exact hB.trans (belowK_b (w := w) (by rw [hA.out]; exact Nat.le_refl _) W D _ _ (by rw [hA.out]; omega) hK rfl rfl)⟩
theorem right_any (p : Option Addr) (ds : List (List Int)) (n : Int) (body : ByteArray) (a : Option Addr) (cap : Nat) (rs : List Sg) (hlr : rs.length ≤ 100000) (w : World) (hG : Glob w) (hk : KeysAt w p ds) (hbd : ds = [] ∨ body.size ≤ 100000) (hat : SigsAt w a rs) :
    Calls Tryd.prog 21 #[.pointer p, .int .i64 n, .string body, .slice a rs.length cap] w fun e W' => e = .returned (.int .i64 (runOf (okS ds body) n (-1) rs : Int)) ∧ Below w.heap.size w W' :=
  (callsIn_wide (n := 8)).1 (right_in 8 (by decide) p ds n body a cap rs hlr w hG hk hbd hat)
end Go.Proofs.YtbfhpgneaklgoaaDoor
namespace Go.Proofs.YtbfhpgneaklgoaaDoor
open Go.RowKit Go.Shelf
open Sha Tal
/-- what Check answers -/
def qcheckV (ok : Sg → Bool) (n : Int) (rs : List Sg) (need : Int) : Int :=
  if goodB n = false ∨ need < 1 ∨ n < need then 2 else if (rs.length : Int) < need ∨ n < rs.length then 50 else if runOf ok n (-1) rs < rs.length then 50 else 0
theorem qcheck_nil (n : Int) (body : ByteArray) (a : Option Addr) (cap : Nat) (rs : List Sg) (need : Int) (w : World) :
    Calls Tryd.prog 8 #[.pointer none, .int .i64 n, .string body, .slice a rs.length cap, .int .i64 need] w fun e w' => e = .returned (.int .i64 1) ∧ Below w.heap.size w w' := by
  have ck := fun w0 => klen_any none [] w0 (.inl ⟨rfl, rfl⟩)
  go_enter Tryd.func8, Tryd.ntmps8
  go_wp2_with (go_at_call 20; refine (ck _).mono ?_; rintro e w1 ⟨rfl, rfl⟩)
  go_ret
  exact ⟨rfl, Below.refl _ _⟩
set_option maxRecDepth 100000 in
set_option maxHeartbeats 2000000 in
theorem qcheck_any (p : Option Addr) (ds : List (List Int)) (n : Int) (body : ByteArray) (a : Option Addr) (cap : Nat) (rs : List Sg) (need : Int) (hlr : rs.length ≤ 100000) (w : World) (hG : Glob w) (hk : KeysAt w p ds) (hds : ds ≠ []) (hbd : body.size ≤ 100000) (hat : SigsAt w a rs) :
    Calls Tryd.prog 8 #[.pointer p, .int .i64 n, .string body, .slice a rs.length cap, .int .i64 need] w fun e w' => e = .returned (.int .i64 (qcheckV (okS ds body) n rs need)) ∧ Below w.heap.size w w' := by
  have ck := fun w0 h0 => klen_any p ds w0 h0
  have cr := right_any p ds n body a cap rs hlr w hG hk (.inr hbd) hat
  have hle := runOf_le (okS ds body) n rs (-1)
  have hdl : ds.length ≠ 0 := fun h => hds (List.eq_nil_of_length_eq_zero h)
  obtain ⟨L, hL⟩ : ∃ L, Hid (ds.length = L) := ⟨_, hide rfl⟩
  rw [hL.out] at hdl
  simp only [hL.out] at ck
  unfold qcheckV
  obtain ⟨c, hc⟩ : ∃ c, Hid (runOf (okS ds body) n (-1) rs = c) := ⟨_, hide rfl⟩
  rw [hc.out] at cr hle ⊢
  have hl0 : ((L : Int) == 0) = false := by simp; omega
  clear hL hc hds hbd
  by_cases g0 : goodB n = true
  rotate_left
  · have g0' : goodB n = false := by simpa using g0
    rw [if_pos (.inl g0')]
    have cg := fun w0 => good_false g0' w0
    clear g0 g0' cr
    go_enter Tryd.func8, Tryd.ntmps8
    go_wp2_with (first | (go_at_call 20; refine (ck _ hk).mono ?_; rintro e w1 ⟨rfl, rfl⟩) | (go_at_call 12; refine (cg _).mono ?_; rintro e w1 ⟨rfl, rfl⟩))
    go_ret
    exact ⟨rfl, Below.refl _ _⟩
  have cg := fun w0 => good_true g0 w0
  by_cases g1 : need < 1
  · rw [if_pos (.inr (.inl g1))]
    clear cr
    go_enter Tryd.func8, Tryd.ntmps8
    go_wp2_with (first | (go_at_call 20; refine (ck _ hk).mono ?_; rintro e w1 ⟨rfl, rfl⟩) | (go_at_call 12; refine (cg _).mono ?_; rintro e w1 ⟨rfl, rfl⟩))
    go_ret
    exact ⟨rfl, Below.refl _ _⟩
  by_cases g2 : n < need
  · rw [if_pos (.inr (.inr g2))]
    clear cr
    go_enter Tryd.func8, Tryd.ntmps8
    go_wp2_with (first | (go_at_call 20; refine (ck _ hk).mono ?_; rintro e w1 ⟨rfl, rfl⟩) | (go_at_call 12; refine (cg _).mono ?_; rintro e w1 ⟨rfl, rfl⟩))
    go_ret
    exact ⟨rfl, Below.refl _ _⟩
  rw [if_neg (by rw [g0]; simp; omega)]
  by_cases g3 : (rs.length : Int) < need
  · rw [if_pos (.inl g3)]
    clear cr
    go_enter Tryd.func8, Tryd.ntmps8
    go_wp2_with (first | (go_at_call 20; refine (ck _ hk).mono ?_; rintro e w1 ⟨rfl, rfl⟩) | (go_at_call 12; refine (cg _).mono ?_; rintro e w1 ⟨rfl, rfl⟩))
    go_ret
    exact ⟨rfl, Below.refl _ _⟩
  by_cases g4 : n < (rs.length : Int)
  · rw [if_pos (.inr g4)]
    clear cr
    go_enter Tryd.func8, Tryd.ntmps8
    go_wp2_with (first | (go_at_call 20; refine (ck _ hk).mono ?_; rintro e w1 ⟨rfl, rfl⟩) | (go_at_call 12; refine (cg _).mono ?_; rintro e w1 ⟨rfl, rfl⟩))
    go_ret
    exact ⟨rfl, Below.refl _ _⟩
  rw [if_neg (by omega)]
  by_cases g5 : c < rs.length
  · rw [if_pos g5]
    have g5' : (c : Int) < rs.length := by omega
    go_enter Tryd.func8, Tryd.ntmps8
    go_wp2_with (first | (go_at_call 20; refine (ck _ hk).mono ?_; rintro e w1 ⟨rfl, rfl⟩) | (go_at_call 12; refine (cg _).mono ?_; rintro e w1 ⟨rfl, rfl⟩) | (go_at_call 21; refine cr.mono ?_; rintro e w1 ⟨rfl, hw1⟩))
    go_ret
    exact ⟨rfl, hw1⟩
  · rw [if_neg g5]
    have g5' : ¬ (c : Int) < rs.length := by omega
    go_enter Tryd.func8, Tryd.ntmps8
    go_wp2_with (first | (go_at_call 20; refine (ck _ hk).mono ?_; rintro e w1 ⟨rfl, rfl⟩) | (go_at_call 12; refine (cg _).mono ?_; rintro e w1 ⟨rfl, rfl⟩) | (go_at_call 21; refine cr.mono ?_; rintro e w1 ⟨rfl, hw1⟩))
    go_ret
    exact ⟨rfl, hw1⟩
end Go.Proofs.YtbfhpgneaklgoaaDoor
namespace Go.Proofs.YtbfhpgneaklgoaaDoor
open Go.RowKit
theorem run_room {ok : Sg → Bool} {n : Int} : ∀ (l : List Sg) (ah : Int), ah < n → runOf ok n ah l = l.length → ah + l.length ≤ n - 1
  | [], ah, h, _ => by simp; omega
  | x :: l, ah, h, hr => by
    obtain ⟨h1, h2, h3⟩ := run_whole hr
    have := run_room l x.n (by omega) h3
    simp only [List.length_cons]
    omega
theorem run_ins {ok : Sg → Bool} {n : Int} {s : Sg} (hn : ¬ n ≤ s.n) (ho : ok s = true) : ∀ (l : List Sg) (ah : Int), ¬ s.n ≤ ah → runOf ok n ah l = l.length → (∀ x ∈ l, x.n ≠ s.n) → runOf ok n ah (insS s l) = (insS s l).length
  | [], ah, ha, _, _ => by
    show runOf ok n ah [s] = 1
    rw [runOf, if_neg (fun h => h.elim ha hn), if_pos ho]
    rfl
  | x :: l, ah, ha, hr, hx => by
    obtain ⟨h1, h2, h3⟩ := run_whole hr
    unfold insS
    split
    · rename_i hg
      have hg' : s.n < x.n := by simpa [gtN] using hg
      rw [runOf, if_neg (fun h => h.elim ha hn), if_pos ho, runOf, if_neg (by omega), if_pos h2, h3]
      simp
    · rename_i hg
      have hg' : ¬ s.n < x.n := by simpa [gtN] using hg
      have hne := hx x (by simp)
      have := run_ins hn ho l x.n (by omega) h3 (fun y hy => hx y (by simp [hy]))
      rw [runOf, if_neg h1, if_pos h2, this]
      simp
theorem mem_ins (s y : Sg) : ∀ l, y ∈ insS s l ↔ y = s ∨ y ∈ l
  | [] => by simp [insS]
  | x :: l => by
    have := mem_ins s y l
    unfold insS
    split
    · simp
    · simp only [List.mem_cons, this]
      constructor
      · rintro (h | h | h) <;> simp [h]
      · rintro (h | h | h) <;> simp [h]
theorem run_add {ok : Sg → Bool} {n : Int} {s : Sg} {l : List Sg} (h0 : ¬ s.n ≤ -1) (hn : ¬ n ≤ s.n) (ho : ok s = true) (hr : runOf ok n (-1) l = l.length) : runOf ok n (-1) (addS l s) = (addS l s).length := by
  unfold addS
  split
  · exact hr
  · rename_i h
    refine run_ins hn ho l (-1) h0 hr (fun x hx e => h ?_)
    rw [List.any_eq_true]
    exact ⟨x, hx, by simp [eqN, e]⟩
theorem mem_add_n {s : Sg} {l : List Sg} (i : Int) : (∃ y ∈ addS l s, y.n = i) ↔ i = s.n ∨ ∃ y ∈ l, y.n = i := by
  unfold addS
  split
  · rename_i h
    obtain ⟨x, hx, he⟩ := List.any_eq_true.1 h
    have he' : x.n = s.n := by simpa [eqN] using he
    constructor
    · exact fun h => .inr h
    · rintro (rfl | h)
      · exact ⟨x, hx, he'⟩
      · exact h
  · constructor
    · rintro ⟨y, hy, rfl⟩
      rcases (mem_ins s y l).1 hy with rfl | h
      · exact .inl rfl
      · exact .inr ⟨y, h, rfl⟩
    · rintro (rfl | ⟨y, hy, rfl⟩)
      · exact ⟨s, (mem_ins s s l).2 (.inl rfl), rfl⟩
      · exact ⟨y, (mem_ins s y l).2 (.inr hy), rfl⟩
theorem add_len_old {s : Sg} {l : List Sg} (h : ∃ y ∈ l, y.n = s.n) : addS l s = l := by
  obtain ⟨y, hy, e⟩ := h
  unfold addS
  rw [if_pos (List.any_eq_true.2 ⟨y, hy, by simp [eqN, e]⟩)]
theorem add_len_new {s : Sg} {l : List Sg} (h : ¬ ∃ y ∈ l, y.n = s.n) : (addS l s).length = l.length + 1 := by
  unfold addS
  rw [if_neg, insS_length]
  intro ha
  obtain ⟨x, hx, he⟩ := List.any_eq_true.1 ha
  exact h ⟨x, hx, by simpa [eqN] using he⟩
theorem qcheck_gathered {ok : Sg → Bool} {n : Int} {l : List Sg} {m : Int} (hg : goodB n = true) (h1 : 1 ≤ m) (h2 : m ≤ n) (hr : runOf ok n (-1) l = l.length) : qcheckV ok n l m = if m ≤ (l.length : Int) then 0 else 50 := by
  have := goodB_true hg
  have hroom := run_room l (-1) (by omega) hr
  unfold qcheckV
  rw [if_neg (by rw [hg]; simp; omega)]
  by_cases h : m ≤ (l.length : Int)
  · rw [if_pos h, if_neg (by omega), hr, if_neg (by omega)]
  · rw [if_neg h, if_pos (by omega)]
end Go.Proofs.YtbfhpgneaklgoaaDoor
namespace Go.Proofs.YtbfhpgneaklgoaaDoor
open Go.RowKit Go.Shelf
open Sha Tal
theorem umodc (z : Int) (m : Nat) (h0 : 0 < m) (hm : m ≤ 65536) : ∃ p : Nat, p < m ∧ wrap64 ((IntKind.u64.wrap z).tmod (m : Int)) = (p : Int) := by
  rw [IntKind.wrap_u64]
  have h0' : 0 ≤ z % 18446744073709551616 := Int.emod_nonneg _ (by decide)
  generalize z % 18446744073709551616 = q at h0'
  rw [Int.tmod_eq_emod_of_nonneg h0']
  have h1 := Int.emod_nonneg q (b := (m : Int)) (by omega)
  have h2 := Int.emod_lt_of_pos q (b := (m : Int)) (by omega)
  refine ⟨(q % (m : Int)).toNat, by omega, ?_⟩
  generalize q % (m : Int) = r at h1 h2
  simp only [wrap64]
  omega
theorem sign_ok (seed : ByteArray) (n k : Nat) (hk : k < n) (body : ByteArray) : (signOf (keysOf seed n) (k : Int) body).2 = 0 := by
  unfold signOf
  have h0 : keysOf seed n ≠ [] := fun h => by have := keysOf_length seed n; rw [h] at this; simp at this; omega
  rw [if_neg h0, keysOf_length, if_neg (by omega)]
theorem wpList_make_row {P : Program} {ops : Array Oper} {rest : List Oper} {o : Oper} {a : Act} {w : World} {Q : Exit → Act → World → Prop} (hg : o.guard = none) (l c : Operand) (t : TypeId) (hop : o.op = Op.makeSlice t l c)
    (e : TypeId) (i : TypeInfo) (z : Value) (size : Nat) (h1 : P.underlying t = some (.slice e)) (h2 : P.info? e = some i) (h3 : i.zero = some z) (h4 : i.size = size)
    (kl kc : IntKind) (n : Nat) (hl : a.eval l = .int kl (n : Int)) (hc : a.eval c = .int kc (n : Int)) (b2 : i.bytes * n ≤ 281474976710656) (b3 : n ≤ maxLen) (zc : Array Value) (hzc : z.cells = zc)
    (hK : wpList P ops Q rest (a.put o.dst (.slice (some ⟨w.heap.size, 0, none⟩) n n)) (w.alloc (.cells (madeCells zc (n * size)) e))) :
    wpList P ops Q (o :: rest) a w := by
  refine wpList_plain hg fun K hK' => ?_
  subst h4
  subst hzc
  have h63' : (n : Int) ≤ 9223372036854775807 := by
    have h := b3
    simp [maxLen] at h
    omega
  have hb' : (i.bytes : Int) * (n : Int) ≤ 281474976710656 := by
    have h : ((i.bytes * n : Nat) : Int) ≤ 281474976710656 := by omega
    rwa [Int.natCast_mul] at h
  have hr := run_make (P := P) w t e i z h1 h2 h3 kl kc n n (by omega) (Int.le_refl _) hb' h63'
  simp only [Int.toNat_natCast] at hr
  unfold Oper.wp
  simp [execOp, hop, hl, hc, hr, Result.andThen]
  exact hK' _ _ hK
theorem made_bools (N : Nat) : (madeCells #[Value.bool false] (N * 1)).toList = (List.replicate N false).map Value.bool := by
  refine List.ext_getElem (by simp [madeCells]) fun i h1 h2 => ?_
  simp [madeCells, Nat.mod_one]
theorem infoB : (Tryd.prog.info? 4).map (fun i => (i.zero, i.size, i.bytes)) = some (some (.bool false), 1, 1) := by kernel_rfl
/-- what is kept from round to round -/
structure GI (ok : Sg → Bool) (N : Nat) (w2 wr : World) (sa : Option Addr) (cs : Nat) (ss : List Sg) (ms : List Bool) : Prop where
  below : Below w2.heap.size w2 wr
  sz : w2.heap.size < wr.heap.size
  met : wr.rangeAt w2.heap.size 0 (ms.map Value.bool)
  th : wr.there w2.heap.size 0 N
  ml : ms.length = N
  mem : ∀ i (hi : i < ms.length), ms[i] = true ↔ ∃ y ∈ ss, y.n = (i : Int)
  at_ : SigsAt wr sa ss
  far : ss = [] ∨ ∀ x, sa = some x → w2.heap.size < x.block
  cap : ss.length ≤ cs
  capm : cs ≤ maxLen
  run : runOf ok N (-1) ss = ss.length
theorem GI.new (ok : Sg → Bool) (N : Nat) (w2 : World) : GI ok N w2 (w2.alloc (.cells (madeCells #[Value.bool false] (N * 1)) 4)) none 0 [] (List.replicate N false) where
  below := (Below.refl _ _).alloc (Nat.le_refl _) _
  sz := by simp
  met := by rw [← made_bools]; exact range_new w2 _ _
  th := fun j hj => there_new w2 (madeCells #[Value.bool false] (N * 1)) 4 j (by rw [size_madeCells]; omega)
  ml := by simp
  mem := fun i hi => by simp
  at_ := SigsAt.none
  far := .inl rfl
  cap := by simp
  capm := by simp
  run := rfl
theorem GI.later {ok : Sg → Bool} {N : Nat} {w2 wr w' : World} {sa : Option Addr} {cs : Nat} {ss : List Sg} {ms : List Bool} (h : GI ok N w2 wr sa cs ss ms) (hb : Below wr.heap.size wr w') : GI ok N w2 w' sa cs ss ms where
  below := h.below.trans (hb.mono h.below.size)
  sz := Nat.lt_of_lt_of_le h.sz hb.size
  met := range_below h.met hb h.sz
  th := there_below h.th hb h.sz
  ml := h.ml
  mem := h.mem
  at_ := h.at_.below hb
  far := h.far
  cap := h.cap
  capm := h.capm
  run := h.run
theorem GI.old {ok : Sg → Bool} {N : Nat} {w2 wr w' : World} {sa sb : Option Addr} {cs cb : Nat} {ss : List Sg} {ms : List Bool} {s : Sg} (h : GI ok N w2 wr sa cs ss ms) (hb : Below wr.heap.size wr w') (he : addS ss s = ss)
    (hat : SigsAt w' sb (addS ss s)) (hfar : ∀ x, sb = some x → wr.heap.size ≤ x.block) (hc : (addS ss s).length ≤ cb) (hm : cb ≤ maxLen) : GI ok N w2 w' sb cb (addS ss s) ms := by
  have g := h.later hb
  rw [he] at hat hc ⊢
  exact ⟨g.below, g.sz, g.met, g.th, g.ml, g.mem, hat, .inr fun x e => Nat.lt_of_lt_of_le h.sz (hfar x e), hc, hm, g.run⟩
theorem GI.new_one {ok : Sg → Bool} {N : Nat} {w2 wr w' : World} {sa sb : Option Addr} {cs cb : Nat} {ss : List Sg} {ms : List Bool} {s : Sg} (h : GI ok N w2 wr sa cs ss ms) (hb : Below wr.heap.size wr w') (i : Nat) (hi : i < N) (hsn : s.n = (i : Int)) (hok : ok s = true)
    (hat : SigsAt w' sb (addS ss s)) (hfar : ∀ x, sb = some x → wr.heap.size ≤ x.block) (hc : (addS ss s).length ≤ cb) (hm : cb ≤ maxLen) : GI ok N w2 (w'.setCell ⟨w2.heap.size, i, none⟩ (.bool true)) sb cb (addS ss s) (ms.set i true) := by
  have g := h.later hb
  refine ⟨g.below.setCell (p := ⟨w2.heap.size, i, none⟩) (Nat.le_refl _) _, by simpa using g.sz, ?_, there_set g.th _ _, by simpa using g.ml, ?_, ?_, .inr fun x e => Nat.lt_of_lt_of_le h.sz (hfar x e), hc, hm, run_add (by omega) (by omega) hok g.run⟩
  · have := range_set g.met i (.bool true)
    rw [Nat.zero_add] at this
    rw [List.map_set]
    exact this
  · intro j hj
    rw [mem_add_n, List.getElem_set]
    split
    · rename_i e
      subst e
      simp [hsn]
    · rename_i e
      rw [g.mem j (by simpa using hj)]
      constructor
      · exact fun q => .inr q
      · rintro (q | q)
        · exact (e (by omega)).elim
        · exact q
  · refine ⟨hat.1, hat.2.1, ?_⟩
    rcases hat.2.2 with q | ⟨b, off, rfl, h1, h2⟩
    · exact .inl q
    · refine .inr ⟨b, off, rfl, by simpa using h1, range_other h2 _ _ ?_⟩
      have hf := hfar _ rfl
      have hsz := h.sz
      have hf' : wr.heap.size ≤ b := hf
      intro e
      have e' : w2.heap.size = b := e
      omega
theorem GI.len {ok : Sg → Bool} {N : Nat} {w2 wr : World} {sa : Option Addr} {cs : Nat} {ss : List Sg} {ms : List Bool} (h : GI ok N w2 wr sa cs ss ms) : ss.length ≤ N := by
  have := run_room ss (-1) (by omega) h.run
  omega
set_option maxRecDepth 100000 in
set_option maxHeartbeats 4000000 in
theorem gathers_any (f : Int) (body : ByteArray) (a : Option Addr) (cap : Nat) (zs : List Int) (need : Int) (w : World) (hG : Glob w) (hrow : RowI w a zs) (hbm : body.size ≤ maxLen) :
    Calls Tryd.prog 4 #[.int .i64 f, .string body, .slice a zs.length cap, .int .i64 need] w fun e w' => e = .returned (.bool true) ∧ Below w.heap.size w w' := by
  have hlm := hrow.1
  unfold maxLen at hlm hbm
  obtain ⟨q, hq, eq⟩ := umodc f 21 (by omega) (by omega)
  have eq' : wrap64 ((IntKind.u64.wrap f).tmod 21) = (q : Int) := eq
  clear eq
  by_cases g1 : 200 < zs.length
  · have g1' : (200 : Int) < zs.length := by omega
    go_enter Tryd.func4, Tryd.ntmps4
    go_wp2_with (go_at_call 5; refine (lives_any _).mono ?_; rintro e w2 ⟨rfl, hw2⟩)
    go_ret
    exact ⟨rfl, hw2⟩
  have g1' : ¬ (200 : Int) < zs.length := by omega
  by_cases g2 : 2000 < body.size
  · have g2' : (2000 : Int) < body.size := by omega
    go_enter Tryd.func4, Tryd.ntmps4
    go_wp2_with (go_at_call 5; refine (lives_any _).mono ?_; rintro e w2 ⟨rfl, hw2⟩)
    go_ret
    exact ⟨rfl, hw2⟩
  have g2' : ¬ (2000 : Int) < body.size := by omega
  obtain ⟨N, hN⟩ : ∃ N, Hid (4 + 3 * q = N) := ⟨_, hide rfl⟩
  have eN : (4 : Int) + 3 * (q : Int) = (N : Int) := by have := hN.out; omega
  have hN1 : 1 ≤ N := by have := hN.out; omega
  have hN2 : N ≤ 64 := by have := hN.out; omega
  have hgood : goodB (N : Int) = true := goodB_mk (by have := hN.out; omega)
  have cd := derive_yes ⟨#[113]⟩ N w hG hN1 (by omega) (by decide)
  have HAT := hide hrow
  have HG := hide hG
  clear hrow hG hN
  go_enter Tryd.func4, Tryd.ntmps4
  go_upto_region 6 with (go_at_call 6; refine cd.mono ?_; rintro e w2 ⟨p, rfl, hp, hk2, hw2⟩)
  obtain ⟨i1, hi1, hiz, his, hib⟩ := info_parts infoB
  have HGI := hide (GI.new (okS (keysOf ⟨#[113]⟩ N) body) N w2)
  obtain ⟨w3, hw3⟩ : ∃ w3, Hid (w2.alloc (.cells (madeCells #[Value.bool false] (N * 1)) 4) = w3) := ⟨_, hide rfl⟩
  rw [hw3.out] at HGI
  obtain ⟨ks, hks⟩ : ∃ ks, Hid (keysOf ⟨#[113]⟩ N = ks) := ⟨_, hide rfl⟩
  have hso := fun i hi => sign_ok ⟨#[113]⟩ N i hi body
  have hkne : ks ≠ [] := by rw [← hks.out]; exact fun h => by have := keysOf_length ⟨#[113]⟩ N; rw [h] at this; simp at this; omega
  rw [hks.out] at hk2 HGI
  simp only [hks.out] at hso
  have HSO := hide hso
  have HK2 := hide hk2
  have eNw : IntKind.u64.wrap (N : Int) = (N : Int) := by rw [IntKind.wrap_u64]; omega
  clear hks hso hk2 cd
  go_wp2_with (at_make; refine wpList_make_row rfl _ _ 36 rfl 4 i1 (.bool false) 1 Tryd.underlying36 hi1 hiz his .i64 .i64 N rfl rfl (by rw [hib]; omega) (by unfold maxLen; omega) #[Value.bool false] rfl ?_; rw [hw3.out])
  go_loopw [11, 13, 41] (fun sv cv kv wr => ∃ (k : Nat) (sa : Option Addr) (cs : Nat) (ss : List Sg) (ms : List Bool), k ≤ zs.length ∧ kv = .int .i64 (k : Int) ∧ sv = .slice sa ss.length cs ∧ cv = .int .i64 (ss.length : Int) ∧ GI (okS ks body) N w2 wr sa cs ss ms) (fun _ _ kv _ => zs.length - (intOf kv).toNat)
  case atStart => exact ⟨0, none, 0, [], _, by omega, rfl, rfl, rfl, HGI.out⟩
  case round =>
    clear HGI hw3
    obtain ⟨k, sa, cs, ss, ms, hk, rfl, rfl, rfl, hgi⟩ := hrel
    have hW : Below w.heap.size w wr := hw2.trans (hgi.below.mono hw2.size)
    have hln := hgi.len
    have HGI := hide hgi
    clear hgi
    by_cases hlt : k < zs.length
    · have k1 : (k : Int) < zs.length := by omega
      obtain ⟨b, off, rfl, hb, hre⟩ := (HAT.out.2.2).resolve_left (fun e => by subst e; simp at hlt)
      have hz := (hW.cell (p := ⟨b, off + k, none⟩) hb).trans (hre k (.int .i64 zs[k]) (by simp [hlt]))
      obtain ⟨z, hzz⟩ : ∃ z, Hid (zs[k] = z) := ⟨_, hide rfl⟩
      rw [hzz.out] at hz
      clear hre hzz
      obtain ⟨i, hi, ei⟩ := umodc z N (by omega) (by omega)
      have csg := ksign_any p ks (i : Int) body wr (HG.out.below hW) (HK2.out.below HGI.out.below) (.inr (by omega))
      have hl := signOf_length ks (i : Int) body
      have hlo := signOf_ok ks (i : Int) body
      have hs0 := HSO.out i hi
      obtain ⟨r, hr⟩ : ∃ r, Hid ((signOf ks (i : Int) body).1 = r) := ⟨_, hide rfl⟩
      have HOK : Hid (okS ks body ⟨(i : Int), r⟩ = true) := hide (by unfold okS checkOf; simp only [hr.out, hs0]; simp)
      rw [hr.out] at hl hlo csg
      rw [hs0] at csg
      have hsok : (Sg.mk (i : Int) r).ok := ⟨hl, hlo, by show _ ≤ (i : Int); omega, by show (i : Int) ≤ _; omega⟩
      have hil : (i : Int) < (N : Int) := by omega
      clear hs0 hr hlo
      go_wp2_with fail
      refine csg.mono ?_
      rintro e w5 ⟨rfl, hw5⟩
      clear csg hz
      have FS := fresh_store w5 (Array.replicate 16 (.int .u8 0)) 38 (v8 r) (by rw [v8_length, hl]; rfl)
      have hN : (w5.alloc (.cells (Array.replicate 16 (.int .u8 0)) 38)).there w5.heap.size 0 (v8 r).toArray.size := by
        have e : (v8 r).toArray.size = 16 := by rw [List.size_toArray, v8_length, hl]
        rw [e]; exact (new_bytes w5 16 38).2
      have hii := info16 r hl
      have h1c := all_oneCell_toArray (v8_one r)
      go_upto_region 13 with (refine wpList_store_mid (op := ⟨none, .store 38 (.tmp 17) (.tmp 56), _, _, _, none⟩) rfl 38 _ _ rfl _ _ (v8 r).toArray rfl rfl hN hii h1c ?_)
      go_name_world w6 hw6
      rw [show (w5.alloc (.cells (Array.replicate 16 (.int .u8 0)) 38)).setCells w5.heap.size 0 (v8 r) = w6 from hw6] at FS
      obtain ⟨hR6, hB6', hz6', _⟩ := FS
      have hW6 : Below wr.heap.size wr w6 := hw5.trans (hB6'.mono hw5.size)
      have HG6 := hide (HGI.out.later hW6)
      have hl16 : (Tryd.prog.info? 38).map (·.size) = some (v8 r).length := by simpa using hii
      have caq := qadd_any sa cs ss ⟨(i : Int), r⟩ w6 HG6.out.at_ HG6.out.cap HG6.out.capm hsok (by omega)
      have hcells : (Sg.mk (i : Int) r).cells = .int .i64 (i : Int) :: v8 r := rfl
      rw [hcells] at caq
      clear hz6' hw6 hN h1c hii hcells hB6'
      go_upto_region 15 with fail
      try simp only [Act.put]
      refine wp_region_list ?_
      refine wpList_step fun K hK => ?_
      go_simp
      refine hK _ _ ?_
      clear hK K
      refine wpList_step fun K hK => ?_
      go_simp
      refine hK _ _ ?_
      clear hK K
      refine wpList_load_mid rfl 38 _ rfl _ _ rfl (v8 r) _ hR6 Tryd.underlying38 rfl hl16 ?_
      refine wpList_step fun K hK => ?_
      go_simp
      refine hK _ _ ?_
      clear hK K
      rw [fold_tag (i : Int) r hl]
      go_wp2_with fail
      refine caq.mono ?_
      rintro e w7 ⟨v7, rfl, ho7, hw7⟩
      have hal : (addS ss ⟨(i : Int), r⟩).length ≤ ss.length + 1 := by
        unfold addS; split
        · omega
        · rw [insS_length]; exact Nat.le_refl _
      obtain ⟨sb, cb, rfl, hcb, hmb, hat7, hfar7⟩ := ho7.sigs (by unfold maxLen; omega)
      have HF7 := hide hfar7
      have hmi : i < ms.length := by rw [HGI.out.ml]; exact hi
      have HG7 := hide (HG6.out.later hw7)
      have hmc := HG7.out.met i (.bool ms[i]) (by simp [hmi])
      rw [Nat.zero_add] at hmc
      have hfz := (HG7.out.th i hi).2
      rw [Nat.zero_add] at hfz
      clear caq ho7 hfar7 hR6
      by_cases hm : ms[i] = true
      · rw [hm] at hmc
        have he : addS ss ⟨(i : Int), r⟩ = ss := add_len_old ((HG6.out.mem i hmi).1 hm)
        have HGN := hide (HG6.out.old hw7 he hat7 HF7.out hcb hmb)
        have HL : Hid (((addS ss ⟨(i : Int), r⟩).length : Int) = (ss.length : Int)) := hide (by rw [he])
        clear hm he hat7
        go_wp2
        exact ⟨⟨k + 1, sb, cb, addS ss ⟨(i : Int), r⟩, ms, by omega, by go_num, rfl, by rw [HL.out], HGN.out⟩, by simp [intOf]; omega⟩
      · have hm' : ms[i] = false := by simpa using hm
        rw [hm'] at hmc
        have HL : Hid (((addS ss ⟨(i : Int), r⟩).length : Int) = (ss.length : Int) + 1) := hide (by rw [add_len_new (fun q => hm ((HG6.out.mem i hmi).2 q))]; simp)
        have HGN := hide (HG6.out.new_one hw7 i hi rfl HOK.out hat7 HF7.out hcb hmb)
        clear hm hm' hat7
        go_wp2
        exact ⟨⟨k + 1, sb, cb, addS ss ⟨(i : Int), r⟩, ms.set i true, by omega, by go_num, rfl, by rw [HL.out], HGN.out⟩, by simp [intOf]; omega⟩
    · obtain rfl : k = zs.length := by omega
      obtain ⟨m0, hm0, em⟩ := umodc need N (by omega) (by omega)
      have cq := qcheck_any p ks (N : Int) body sa cs ss (1 + (m0 : Int)) (by omega) wr (HG.out.below hW) (HK2.out.below HGI.out.below) hkne (by omega) HGI.out.at_
      rw [qcheck_gathered hgood (by omega) (by omega) HGI.out.run] at cq
      clear HGI HSO
      by_cases hm : 1 + (m0 : Int) ≤ (ss.length : Int)
      · rw [if_pos hm] at cq
        go_wp2_with (first | (go_at_call 8; refine cq.mono ?_; rintro e w5 ⟨rfl, hw5⟩) | (go_at_call 5; refine (lives_any _).mono ?_; rintro e w6 ⟨rfl, hw6⟩))
        go_ret
        exact ⟨rfl, hW.trans ((hw5.trans (hw6.mono hw5.size)).mono hW.size)⟩
      · rw [if_neg hm] at cq
        go_wp2_with (first | (go_at_call 8; refine cq.mono ?_; rintro e w5 ⟨rfl, hw5⟩) | (go_at_call 5; refine (lives_any _).mono ?_; rintro e w6 ⟨rfl, hw6⟩))
        go_ret
        refine ⟨?_, hW.trans ((hw5.trans (hw6.mono hw5.size)).mono hW.size)⟩
        first | rfl | (simp; omega)
end Go.Proofs.YtbfhpgneaklgoaaDoor
namespace Go.Proofs.YtbfhpgneaklgoaaDoor.quorumGathers
open Go.ChangeShapes Go.WideShapes Go.ChangeAt Go.RowKit
open Go.ChangeMaps (open_string shut_string)
set_option linter.unusedVariables false
set_option maxRecDepth 100000 in
theorem lifted (os : Os) (started : os.Started) (H : Type) (enc : TypeId × Value → H) :
    ReturnsInHanded {} Tryd.checked os 4 .any (fun w args => (Rows.quorumGathersSpec.pre enc Tryd.prog Tryd.f4 [] false w args ∧ laidMetH Tryd.prog laid2 w) ∧ sizedMet enc Tryd.prog Tryd.f4 (OpenSpec.ofChange Rows.quorumGathersSpec) false w args)
      (Rows.quorumGathersSpec.post enc Tryd.prog Tryd.f4 false true false false) := by
  refine returnsInHanded_of_change_and (C := Tryd.checked) (X := fun w _ => laidMetH Tryd.prog laid2 w) (fun _ _ _ hh h => h.of_heap hh) own started (by kernel_rfl) Tryd.func4
    (ChangeSpec.witness_shaped (enc := enc) (C := Tryd.checked) (os := os) (X := fun w _ => laidMetH Tryd.prog laid2 w) false (World.doorLaid Tryd.prog 400 os) #[.int .i64 0, .string ByteArray.empty, .slice none 0 0, .int .i64 0] 8 rfl (World.shaped_of_RefB (by kernel_rfl) (by kernel_rfl)) (by kernel_rfl) (by kernel_rfl) (by kernel_rfl) (door_met os _)) ?_
  intro W base args ds gs before hval0 hW _ _ hL _
  have hval : ∀ (j : Nat) t v, Tryd.f4.params[j]? = some t → args[j]? = some v → Value.okWide Tryd.prog W .any base t v := hval0
  have hW' := hW
  obtain ⟨p, q, hA0, hV, rfl, hfz, hnd⟩ := hW
  have hA : DataW.TrodAll enc Tryd.prog W 0 (fun _ => true) true Tryd.f4.params.toList args.toList ds p := hA0
  rw [Tryd.params4] at hA hval
  obtain ⟨v0, vs0, d0, ds0, p0, q0, hargs, rfl, rfl, h0, r0⟩ := trodAll_cons hA
  obtain ⟨v1, vs1, d1, ds1, p1, q1, rfl, rfl, rfl, h1, r1⟩ := trodAll_cons r0
  obtain ⟨v2, vs2, d2, ds2, p2, q2, rfl, rfl, rfl, h2, r2⟩ := trodAll_cons r1
  obtain ⟨v3, vs3, d3, ds3, p3, q3, rfl, rfl, rfl, h3, r3⟩ := trodAll_cons r2
  obtain ⟨rfl, rfl, rfl⟩ := trodAll_nil r3
  obtain rfl : args = #[v0, v1, v2, v3] := by cases args; simp_all
  obtain ⟨rfl, rfl⟩ := trodVars_none hV
  have k0 := h0
  have lt0 : ∀ x ∈ p0, x.block < W.heap.size := by obtain ⟨m, hm⟩ := k0; exact DataW.trod_lt m _ _ _ hm
  have k1 := h1
  have lt1 : ∀ x ∈ p1, x.block < W.heap.size := by obtain ⟨m, hm⟩ := k1; exact DataW.trod_lt m _ _ _ hm
  have k2 := h2
  have lt2 : ∀ x ∈ p2, x.block < W.heap.size := by obtain ⟨m, hm⟩ := k2; exact DataW.trod_lt m _ _ _ hm
  have k3 := h3
  have lt3 : ∀ x ∈ p3, x.block < W.heap.size := by obtain ⟨m, hm⟩ := k3; exact DataW.trod_lt m _ _ _ hm
  obtain ⟨n0, rfl, rfl, rfl, hn0⟩ := open_int Tryd.underlying3 (hval 0 3 v0 rfl rfl) h0
  obtain ⟨s1, rfl, rfl, rfl, hs1⟩ := open_string Tryd.underlying9 (hval 1 9 v1 rfl rfl) h1
  obtain ⟨a2, len2, cap2, rfl⟩ := okWide_slice Tryd.underlying34 (hval 2 34 v2 rfl rfl)
  obtain ⟨z2, w2⟩ : ∃ zs, IsRow .i64 W a2 len2 cap2 zs := by
    obtain ⟨fuel, hf⟩ := h2
    rcases open_ints Tryd.underlying34 Tryd.underlying3 (by kernel_rfl) hf with ⟨hcs, _⟩ | ⟨x, l, c, zs, hcs, _, hl, hm, hz, _, hcell, hwz⟩
    · simp [Value.cells] at hcs
      obtain ⟨rfl, rfl, rfl⟩ := hcs
      exact ⟨[], .inl ⟨rfl, rfl, rfl, rfl⟩⟩
    · simp [Value.cells] at hcs
      obtain ⟨rfl, rfl, rfl⟩ := hcs
      exact ⟨zs, .inr ⟨_, rfl, hl, hm, by simpa using hz, hcell, hwz⟩⟩
  obtain ⟨y2, rfl, hc2, hm2, row2⟩ := w2.rowI
  obtain ⟨n3, rfl, rfl, rfl, hn3⟩ := open_int Tryd.underlying3 (hval 3 3 v3 rfl rfl) h3
  have hG := glob_of hL
  clear hA0 hval0
  refine (gathers_any n0 s1 _ _ _ n3 W hG row2 (by first | exact hs1 | (have := hs1; simp at this; omega))).mono fun e W' ⟨he, bel⟩ => ?_
  subst he
  exact ⟨_, rfl, _, _, _, [], _, [], hW', trodAll_mk1 (shut_bool Tryd.underlying4 _), (trodAll_cons_mk (Below.trod laidOut (by kernel_rfl) (of_decide_eq_true (by kernel_rfl)) k0 bel lt0) (trodAll_cons_mk (Below.trod laidOut (by kernel_rfl) (of_decide_eq_true (by kernel_rfl)) k1 bel lt1) (trodAll_cons_mk (Below.trod laidOut (by kernel_rfl) (of_decide_eq_true (by kernel_rfl)) k2 bel lt2) (trodAll_cons_mk (Below.trod laidOut (by kernel_rfl) (of_decide_eq_true (by kernel_rfl)) k3 bel lt3) trodAll_mk0)))), rfl, bel.frame _, fun h => by cases h⟩
theorem over : Rows.QuorumGathersSaid :=
  OpenClaim.holds_of_wide 4 Tryd.f4 rfl rfl rfl rfl rfl rfl rfl ⟨rfl, rfl, rfl, rfl, rfl⟩ rfl rfl rfl rfl rfl (by kernel_rfl) Tryd.func4 (by kernel_rfl)
    (of_decide_eq_true (by kernel_rfl)) (by unfold Func.isWrapper; first | (rw [if_pos (by decide +kernel)]; kernel_rfl) | (rw [if_neg (by decide +kernel)]; exact ⟨rfl, rfl⟩))
    (fun os started H enc _ => lifted os started H enc)
end Go.Proofs.YtbfhpgneaklgoaaDoor.quorumGathers
namespace Go.Proofs.YtbfhpgneaklgoaaDoor
theorem quorumGathers_card : Rows.QuorumGathersCardSaid :=
  Claim7.holds_tied_plain_at .later [] [.data, .data] true (true, "985cf6356824b21b1c67a1f31d600c68845125c906223d7769d3dccfc3ee5910") false
    quorumGathers.over (fun _ h => by cases h) (by kernel_rfl) (fun _ h => by cases h) quorumGathers_row_tie rfl ⟨rfl, rfl⟩ (by kernel_rfl) rfl
    (fun f fn hf hfn => by
      obtain rfl : f = 4 := Option.some.inj ((show Tryd.prog.funcNamed "raddle/raddlelaw05.QuorumGathers" = some 4 by kernel_rfl).symm.trans hf) |>.symm
      obtain rfl : fn = Tryd.f4 := (Option.some.inj (Tryd.func4.symm.trans hfn)).symm
      exact ⟨by kernel_rfl, fun j t ht => by
        rw [Tryd.params4] at ht
        rcases j with _ | _ | _ | _ | j
        · obtain rfl : t = 3 := by simpa using ht.symm
          exact (show Tryd.prog.wantsStandIn 3 = false by kernel_rfl)
        · obtain rfl : t = 9 := by simpa using ht.symm
          exact (show Tryd.prog.wantsStandIn 9 = false by kernel_rfl)
        · obtain rfl : t = 34 := by simpa using ht.symm
          exact (show Tryd.prog.wantsStandIn 34 = false by kernel_rfl)
        · obtain rfl : t = 3 := by simpa using ht.symm
          exact (show Tryd.prog.wantsStandIn 3 = false by kernel_rfl)
        · simp at ht⟩)
    (by kernel_rfl)
#print axioms quorumGathers_card
end Go.Proofs.YtbfhpgneaklgoaaDoor
