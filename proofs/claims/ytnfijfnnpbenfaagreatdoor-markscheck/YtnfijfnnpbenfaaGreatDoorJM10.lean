/- quorum.signers, by places; a drawn region within a round of a loop over an iterator: walked as outside; how many signs are right ahead of the first wrong one; q -/
import Derived.Test.YtnfijfnnpbenfaaGreatDoorJM0
import Derived.Test.YtnfijfnnpbenfaaGreatDoorJM9
import Derived.Test.YtnfijfnnpbenfaaGreatDoorJM1
import Derived.OrdersIn
import Derived.RangeFuncCalls
import Derived.WalkMore
import Derived.Scope
namespace Go.Proofs.YtnfijfnnpbenfaaGreatDoor.Qs
open Go.RowKit Go.Shelf
attribute [local go_sem] Oper.semAt_some
theorem fin_succ (n k : Nat) (hk : k < n) : (List.finRange n).take (k + 1) = (List.finRange n).take k ++ [⟨k, hk⟩] := by
 rw [List.take_succ_eq_append_getElem (by rw [List.length_finRange]; exact hk)]
 simp
set_option maxRecDepth 100000 in
set_option maxHeartbeats 2000000 in
theorem signersF_in (F : Fence) (n : Nat) (h7 : F.fn 148) (hro : F.round = none) (hn : 1 ≤ n) (l Bs n₀ : Nat) (a : Option Addr) (cap : Nat) (rs : List Sg) (hlr : rs.length ≤ 100000) (J Jx : List (Fin rs.length) → World → Prop)
  (W : World) (hJ : AbidesFrom W.heap.size J)
  (hY : ∀ pre x W, J pre W → pre.length < rs.length → YieldAt F (n - 1) Tryz.prog l #[.int .i64 (x.val : Int), .int .i64 (rs[x.val].n)] W fun e W' =>
   (e = .returned (.bool true) ∧ J (pre ++ [x]) W' ∧ KeepsB n₀ Bs W W') ∨ (e = .returned (.bool false) ∧ Jx (pre ++ [x]) W'))
  (hBs : W.cell? ⟨Bs, 0, none⟩ = some (.slice a rs.length cap)) (hc : SigsAt W a rs) (hlo : rs = [] ∨ ∀ x, a = some x → x.block < n₀) (hn₀ : n₀ ≤ W.heap.size) (h0 : J [] W) :
  CallsIn F n Tryz.prog 148 #[.func (.yield l) #[] #[], .pointer (some ⟨Bs, 0, none⟩)] W fun e W' => (∃ v, e = .returned v) ∧
   ((∃ ys, ys = List.finRange rs.length ∧ J ys W') ∨ (∃ pre, pre <+: List.finRange rs.length ∧ Jx pre W')) := by
 have hall := hc.2.1
 refine callsIn_of_wp Tryz.func148 rfl h7 ?_ hro
 simp only [Tryz.ntmps148, List.size_toArray, List.length_cons, List.length_nil, Nat.reduceAdd, Nat.reduceSub, Array.replicate_succ, Array.replicate_zero, List.push_toArray, List.append_toArray, List.nil_append, List.cons_append]
 gi_wp2
 gi_loopw [7] (fun i wr => ∃ k : Nat, k ≤ rs.length ∧ i = .int .i64 k ∧ J ((List.finRange rs.length).take k) wr ∧ KeepsB n₀ Bs W wr)
  (fun i _ => rs.length - (intOf i).toNat)
 case atStart => exact ⟨0, Nat.zero_le _, rfl, h0, KeepsB.refl _ _ _⟩
 case round =>
  obtain ⟨k, hk, rfl, hJs, hnx⟩ := hrel
  by_cases hlt : k < rs.length
  ·have k1 : (k : Int) < rs.length := by omega
   obtain ⟨b, off, rfl, hb, hre⟩ := (hc.belowN hnx.1 (hlo.resolve_left (fun h => by subst h; simp at hlt))).elem k hlt
   have HU := hide (fin_succ rs.length k hlt)
   obtain ⟨r, hr⟩ : ∃ r, Hid (rs[k] = r) := ⟨_, hide rfl⟩
   have hok : r.ok := by rw [← hr.out]; exact hall _ (List.getElem_mem hlt)
   rw [hr.out] at hre
   have hiq := hok.isz
   have hiA := hok.iszA
   have h1c := all_oneCell_toArray r.one
   have hN : (wr.alloc (.cells #[.int .i64 0, .int .u8 0, .int .u8 0, .int .u8 0, .int .u8 0, .int .u8 0, .int .u8 0, .int .u8 0, .int .u8 0, .int .u8 0, .int .u8 0, .int .u8 0, .int .u8 0, .int .u8 0, .int .u8 0, .int .u8 0, .int .u8 0] 56)).there wr.heap.size 0 r.cells.toArray.size := by
    have := there_new wr #[.int .i64 0, .int .u8 0, .int .u8 0, .int .u8 0, .int .u8 0, .int .u8 0, .int .u8 0, .int .u8 0, .int .u8 0, .int .u8 0, .int .u8 0, .int .u8 0, .int .u8 0, .int .u8 0, .int .u8 0, .int .u8 0, .int .u8 0] 56
    have e : r.cells.toArray.size = 17 := by rw [List.size_toArray, hok.length]
    rw [e]; exact this
   have FS := fresh_store wr #[.int .i64 0, .int .u8 0, .int .u8 0, .int .u8 0, .int .u8 0, .int .u8 0, .int .u8 0, .int .u8 0, .int .u8 0, .int .u8 0, .int .u8 0, .int .u8 0, .int .u8 0, .int .u8 0, .int .u8 0, .int .u8 0, .int .u8 0] 56 r.cells (by rw [hok.length]; rfl)
   have hfr := fun (w0 : World) (b0 : Nat) (hh : w0.rangeAt b0 0 r.cells) => Sg.first hh
   obtain ⟨u, hu⟩ : ∃ u, Hid (r.cells = u) := ⟨_, hide rfl⟩
   rw [hu.out] at hre hiq hiA hN h1c FS
   simp only [hu.out] at hfr
   obtain ⟨c, hce⟩ : ∃ c, Hid (r.n = c) := ⟨_, hide rfl⟩
   have HC : Hid (rs[k].n = c) := hide (by rw [hr.out]; exact hce.out)
   simp only [hce.out] at hfr
   clear hr hu hok hce
   have hlen : ((List.finRange rs.length).take k).length < rs.length := by rw [List.length_take, List.length_finRange]; omega
   gi_upto_region 2 with fail
   try simp only [Act.put]
   refine wpIn_region_list ?_
   refine wpListIn_plain rfl fun K hK => ?_
   go_simp
   refine hK _ _ ?_
   clear hK K
   refine wpListIn_plain rfl fun K hK => ?_
   go_simp
   try simp only [if_pos k1, show (0 : Int) ≤ (k : Int) from Int.natCast_nonneg k, and_self, ↓reduceIte]
   try go_bits
   try go_simp
   refine hK _ _ ?_
   clear hK K
   refine wpListIn_load_mid rfl 56 _ rfl _ _ rfl u _ hre Tryz.underlying56 rfl hiq ?_
   refine wpListIn_plain rfl fun K hK => ?_
   go_simp
   refine hK _ _ ?_
   clear hK K
   refine wpListIn_plain rfl fun K hK => ?_
   go_simp
   refine hK _ _ ?_
   clear hK K
   refine wpListIn_store_mid rfl 56 _ _ rfl _ _ u.toArray rfl rfl hN hiA h1c ?_
   try simp only [Act.put]
   have hgb : wr.grownBy _ none := gb_sets_past (Nat.le_refl _) u 0 _ (World.grownBy_alloc wr (.cells #[.int .i64 0, .int .u8 0, .int .u8 0, .int .u8 0, .int .u8 0, .int .u8 0, .int .u8 0, .int .u8 0, .int .u8 0, .int .u8 0, .int .u8 0, .int .u8 0, .int .u8 0, .int .u8 0, .int .u8 0, .int .u8 0, .int .u8 0] 56) none)
   obtain ⟨w3, hw3⟩ : ∃ w3, Hid ((wr.alloc (.cells #[.int .i64 0, .int .u8 0, .int .u8 0, .int .u8 0, .int .u8 0, .int .u8 0, .int .u8 0, .int .u8 0, .int .u8 0, .int .u8 0, .int .u8 0, .int .u8 0, .int .u8 0, .int .u8 0, .int .u8 0, .int .u8 0, .int .u8 0] 56)).setCells wr.heap.size 0 u = w3) := ⟨_, hide rfl⟩
   rw [hw3.out] at FS hgb
   simp only [hw3.out]
   have hJ3 := hJ _ _ _ none hJs hgb (fun r e => by cases e)
   have hK3 : KeepsB n₀ Bs W w3 := hnx.tr ⟨(FS.2.1).mono (by have := hnx.1.size; omega), fun hbb => hgb.block Bs hbb (by simp)⟩
   have hcf := hfr _ _ FS.1
   clear FS hfr hgb hw3 hre hN hiA hiq h1c hJs hnx
   have hY3 := hY _ ⟨k, hlt⟩ w3 hJ3 hlen
   simp only [HC.out] at hY3
   obtain ⟨fn, tmps, assign, body, hy, hR⟩ := hY3
   gi_wp2
   refine hR.mono ?_
   rintro e W3 (⟨rfl, hJ4, hk3⟩ | ⟨rfl, hJx3⟩)
   ·gi_wp2
    go_roundw
    case rel => exact ⟨k + 1, by omega, by simp, by rw [HU.out]; exact hJ4, hK3.tr hk3⟩
    case measure => simp [intOf]; omega
   ·gi_wp2
    refine bodyPost_ret (results_none rfl _ _ _) rfl ?_
    exact ⟨⟨_, rfl⟩, .inr ⟨_, by rw [← HU.out]; exact List.take_prefix _ _, hJx3⟩⟩
  ·obtain rfl : k = rs.length := by omega
   gi_wp2
   go_end0
   exact ⟨⟨_, rfl⟩, .inl ⟨_, List.take_of_length_le (by rw [List.length_finRange]; exact Nat.le_refl _), hJs⟩⟩
theorem signersF_stops (F : Fence) (n : Nat) (h7 : F.fn 148) (hro : F.round = none) (hn : 1 ≤ n) (Bs n₀ : Nat) (a : Option Addr) (cap : Nat) (rs : List Sg) (hlr : rs.length ≤ 100000) (w : World) (hBs : Bs < w.heap.size) (hn₀ : n₀ ≤ w.heap.size)
  (hc : w.cell? ⟨Bs, 0, none⟩ = some (.slice a rs.length cap)) (hI : SigsAt w a rs) (hlo : rs = [] ∨ ∀ x, a = some x → x.block < n₀) :
  SeqStopsK F n Tryz.prog 148 #[.pointer (some ⟨Bs, 0, none⟩)] (fun x : Fin rs.length => #[Value.int .i64 (x.val : Int), Value.int .i64 (rs[x.val].n)]) (KeepsB n₀ Bs) (fun ys => ys = List.finRange rs.length) (fun pre => pre <+: List.finRange rs.length) rs.length w := fun l J Jx W hW hJ _ hY h0 =>
 signersF_in F n h7 hro hn l Bs n₀ a cap rs hlr J Jx W hJ hY ((hW.cell (p := ⟨Bs, 0, none⟩) hBs).trans hc) (hI.below hW) hlo (Nat.le_trans hn₀ hW.size) h0
open Go Go.RowKit
section
variable {P : Program} {ops : Array Oper} {Q : Exit → Act → World → Prop}
def Oper.plain (o : Oper) : Bool := match o.op with | .defer _ => false | _ => true
theorem op_round {o : Oper} {a : Act} {w : World} {K K' : Act → World → Prop} (l n : Nat) (hd : Oper.plain o = true) (hK : ∀ a w, K a w → K' a w) (h : o.wp P a w K Q) : o.wpIn (Fence.wide.inRound l) n P a w K' Q := by
 refine ⟨fun f _ => trivial, ?_⟩
 rw [Oper.semAt_eq _ _ _ (fun c e => by rw [Oper.plain, e] at hd; cases hd)]
 unfold Oper.wp at h
 generalize (execOp a.eval o).run P w = r at h
 match r, h with
 | .ok (.value v) w', h => exact hK _ _ h
 | .ok .skip w', h => exact hK _ _ h
 | .ok (.defer d) w', h => exact hK _ _ h
 | .ok (.enter f args) w', h =>
  refine ⟨fun e => by simp [Fence.wide, Fence.inRound] at e, ?_⟩
  refine CallsIn.inRound l ((callsIn_wide (n := n - 1)).2 (Calls.mono h ?_))
  intro e w'' he
  match e, he with
  | .returned v, he => exact hK _ _ he
  | .panicked c, he => exact he
  | .outgrown, he => exact he
 | .ok (.row row args) w', h =>
  refine ⟨fun e => by simp [Fence.wide, Fence.inRound] at e, ?_⟩
  intro c cs _
  obtain ⟨v, w'', r, s⟩ := h c cs
  exact ⟨v, w'', hK _ _ r, stepsIn_wide.2 s⟩
 | .halt (.panic v) w', h => exact h
theorem any_round (l n : Nat) (hd : ops.all Oper.plain = true) (hno : ¬ LetsOut Q) : ∀ (fuel : Nat) (listed : Array Bool) (a : Act) (w : World), wpAny P .any ops Q fuel listed a w → wpAnyIn (Fence.wide.inRound l) n P .any ops Q fuel listed a w
  | 0, _, _, _, h => h
  | fuel + 1, listed, a, w, h => by
    refine ⟨h.1, fun i hi => ?_⟩
    have h2 := h.2 i hi
    unfold wpOp at h2
    unfold wpOpIn
    cases ho : ops[i]? with
    | none => rw [ho] at h2; exact any_round l n hd hno fuel _ _ _ h2
    | some o =>
      rw [ho] at h2
      have hp : Oper.plain o = true := Array.all_eq_true_iff_forall_mem.1 hd o (Array.mem_of_getElem? ho)
      simp only [] at h2 ⊢
      split at h2
      · rename_i hw
        rw [if_pos hw]
        rcases h2 with h2 | ⟨_, h2⟩
        · exact op_round l n hp (fun a w => any_round l n hd hno fuel _ a w) h2
        · exact (hno h2).elim
      · rename_i hw
        rw [if_neg hw]
        exact ⟨fun _ _ => trivial, any_round l n hd hno fuel _ _ _ h2⟩
theorem hi_begin {id l n : Nat} {S : World → Prop} {a : Act} {w : World} (m : Nat) (hn : ops.size = m) (hm : P.follows .mixedOrders = true) (hd : ops.all Oper.plain = true) (hno : ¬ LetsOut Q)
  (h : HeldS P ops Q S m (Array.replicate m false) a w.drew) : (Code.region id ops true).wpIn (Fence.wide.inRound l) n P Q a w := by
 subst hn
 have hno' : ¬ LetsOut (NoPanic Q) := fun ⟨a, w, h⟩ => hno ⟨a, w, h⟩
 exact Code.wpIn_mono NoPanic.imp (wpIn_region_any hm (any_round l n hd hno' _ _ _ _ (wpAny_of_held _ _ _ _ h)))
end
end Go.Proofs.YtnfijfnnpbenfaaGreatDoor.Qs
namespace Go.Proofs.YtnfijfnnpbenfaaGreatDoor.Qs
open Go Go.RowKit
def lastN (ah : Int) : List Sg → Int
  | [] => ah
  | x :: l => lastN x.n l
theorem lastN_snoc (x : Sg) : ∀ (l : List Sg) (ah : Int), lastN ah (l ++ [x]) = x.n
  | [], _ => rfl
  | y :: l, _ => lastN_snoc x l y.n
def runOf (ok : Sg → Bool) (n : Int) : Int → List Sg → Nat
  | _, [] => 0
  | ah, x :: l => if x.n ≤ ah ∨ n ≤ x.n then 0 else if ok x then runOf ok n x.n l + 1 else 0
theorem runOf_le (ok : Sg → Bool) (n : Int) : ∀ (l : List Sg) (ah : Int), runOf ok n ah l ≤ l.length
  | [], _ => Nat.le_refl _
  | x :: l, ah => by
    have := runOf_le ok n l x.n
    unfold runOf
    split
    · simp
    · split <;> simp; omega
theorem run_whole {ok : Sg → Bool} {n ah : Int} {x : Sg} {l : List Sg} (h : runOf ok n ah (x :: l) = (x :: l).length) : ¬ (x.n ≤ ah ∨ n ≤ x.n) ∧ ok x = true ∧ runOf ok n x.n l = l.length := by
 unfold runOf at h
 split at h
 ·simp at h
 ·rename_i hb
  split at h
  ·rename_i ho
   exact ⟨hb, ho, by simpa using h⟩
  ·simp at h
theorem run_cut {ok : Sg → Bool} {n : Int} {x : Sg} (t : List Sg) : ∀ (m : List Sg) (ah : Int), runOf ok n ah m = m.length → (x.n ≤ lastN ah m ∨ n ≤ x.n ∨ ok x = false) → runOf ok n ah (m ++ x :: t) = m.length
  | [], ah, _, hb => by
    simp only [List.nil_append, List.length_nil, lastN] at hb ⊢
    unfold runOf
    split
    · rfl
    · rename_i h1
      split
      · rename_i h2
        rcases hb with hb | hb | hb
        · exact (h1 (.inl hb)).elim
        · exact (h1 (.inr hb)).elim
        · rw [hb] at h2; cases h2
      · rfl
  | y :: m, ah, hm, hb => by
    obtain ⟨h1, h2, h3⟩ := run_whole hm
    have := run_cut t m y.n h3 hb
    rw [List.cons_append, runOf, if_neg h1, if_pos h2, this]
    rfl
theorem run_snoc {ok : Sg → Bool} {n : Int} {x : Sg} : ∀ (m : List Sg) (ah : Int), runOf ok n ah m = m.length → ¬ x.n ≤ lastN ah m → ¬ n ≤ x.n → ok x = true → runOf ok n ah (m ++ [x]) = (m ++ [x]).length
  | [], ah, _, h1, h2, h3 => by
    simp only [lastN] at h1
    show runOf ok n ah [x] = 1
    rw [runOf, if_neg (fun h => h.elim h1 h2), if_pos h3]
    rfl
  | y :: m, ah, hm, h1, h2, h3 => by
    obtain ⟨g1, g2, g3⟩ := run_whole hm
    have := run_snoc m y.n g3 h1 h2 h3
    rw [List.cons_append, runOf, if_neg g1, if_pos g2, this]
    rfl
def atF (rs : List Sg) (l : List (Fin rs.length)) : List Sg := l.map (fun i => rs[i.val])
theorem atF_snoc (rs : List Sg) (l : List (Fin rs.length)) (x : Fin rs.length) : atF rs (l ++ [x]) = atF rs l ++ [rs[x.val]] := by simp [atF]
theorem atF_length (rs : List Sg) (l : List (Fin rs.length)) : (atF rs l).length = l.length := by simp [atF]
theorem atF_all (rs : List Sg) : atF rs (List.finRange rs.length) = rs := by
 refine List.ext_getElem (by simp [atF]) fun i h1 h2 => ?_
 simp [atF]
theorem run_stop {ok : Sg → Bool} {n : Int} {rs : List Sg} {m : List (Fin rs.length)} {x : Fin rs.length} (hp : m ++ [x] <+: List.finRange rs.length) (hm : runOf ok n (-1) (atF rs m) = m.length)
  (hb : rs[x.val].n ≤ lastN (-1) (atF rs m) ∨ n ≤ rs[x.val].n ∨ ok rs[x.val] = false) : runOf ok n (-1) rs = m.length := by
 obtain ⟨t, ht⟩ := hp
 have e := atF_all rs
 rw [← ht] at e
 have e2 : atF rs m ++ rs[x.val] :: atF rs t = rs := by simpa [atF] using e
 have := run_cut (atF rs t) (atF rs m) (-1) (by rw [hm, atF_length]) hb
 rw [e2, atF_length] at this
 exact this
open Go.RowKit Go.Shelf
open Sha Tal
attribute [local go_sem] Oper.semAt_some
def okS (ds : List (List Int)) (body : ByteArray) (s : Sg) : Bool := checkOf (signOf ds s.n body) s.t
structure RB (W : World) (A : Nat) (p : Option Addr) (n : Int) (body : ByteArray) (SV : Value) (c ah : Int) : Prop where
 b0 : Boxed W A 26 (.pointer p)
 b1 : Boxed W (A + 1) 3 (.int .i64 n)
 b2 : Boxed W (A + 2) 9 (.string body)
 b3 : Boxed W (A + 3) 24 SV
 b4 : Boxed W (A + 4) 3 (.int .i64 c)
 b5 : Boxed W (A + 5) 3 (.int .i64 ah)
 b6 : Boxed W (A + 6) 24 SV
theorem boxed_below {W W' : World} {B : Nat} {t : TypeId} {v : Value} (h : Boxed W B t v) (hb : Below W.heap.size W W') : Boxed W' B t v := (hb.block B h.lt).trans h
theorem RB.below {W W' : World} {A : Nat} {p : Option Addr} {n : Int} {body : ByteArray} {SV : Value} {c ah : Int} (h : RB W A p n body SV c ah) (hb : Below W.heap.size W W') : RB W' A p n body SV c ah :=
 ⟨boxed_below h.b0 hb, boxed_below h.b1 hb, boxed_below h.b2 hb, boxed_below h.b3 hb, boxed_below h.b4 hb, boxed_below h.b5 hb, boxed_below h.b6 hb⟩
theorem RB.own {β : Type} (A : Nat) (p : Option Addr) (n : Int) (body : ByteArray) (SV : Value) (c ah : β → Int) : Own (fun s W => RB W A p n body SV (c s) (ah s)) := by
 rintro s X Y row h hg hrow
 have key : ∀ {B : Nat} {t : TypeId} {v : Value}, Boxed X B t v → Boxed Y B t v := fun {B} {t} {v} hv => by
  refine hv.kept hg (fun e' => ?_)
  obtain ⟨o, ho, hc⟩ := hrow B e'.symm
  rw [show X.heap[B]? = _ from hv] at ho; cases ho; cases hc
 exact ⟨key h.b0, key h.b1, key h.b2, key h.b3, key h.b4, key h.b5, key h.b6⟩
theorem RB.step {W : World} {A : Nat} {p : Option Addr} {n : Int} {body : ByteArray} {SV : Value} {c ah : Int} (h : RB W A p n body SV c ah) (c' ah' : Int) :
    RB ((W.setCell ⟨A + 4, 0, none⟩ (.int .i64 c')).setCell ⟨A + 5, 0, none⟩ (.int .i64 ah')) A p n body SV c' ah' :=
  ⟨(h.b0.other (by omega) _).other (by omega) _, (h.b1.other (by omega) _).other (by omega) _, (h.b2.other (by omega) _).other (by omega) _, (h.b3.other (by omega) _).other (by omega) _,
   ((h.b4.set _)).other (by omega) _, ((h.b5.other (by omega) _).set _), (h.b6.other (by omega) _).other (by omega) _⟩
theorem below_keepsFrom {W W' : World} (h : Below W.heap.size W W') (B : Nat) : KeepsFrom B W W' :=
 ⟨h.size, fun k _ _ hk _ => (h.block k (Array.getElem?_eq_some_iff.1 hk).1).trans hk⟩
theorem SigsAt.lo {w : World} {a : Option Addr} {rs : List Sg} (h : SigsAt w a rs) : rs = [] ∨ ∀ x, a = some x → x.block < w.heap.size := by
 rcases h.2.2 with h | ⟨b, off, rfl, h1, h2⟩
 ·exact Or.inl h
 ·exact Or.inr fun x e => by cases e; exact h1
theorem Boxed.at {W : World} {t : TypeId} {v : Value} {B : Nat} (h : W.heap.size = B) : Boxed (W.alloc (.cells #[v] t)) B t v := by rw [← h]; exact Boxed.new W t v
theorem keepsFrom_set {W W' : World} {B j : Nat} (h : KeepsFrom B W W') (hj : j < B) (v : Value) : KeepsFrom B W (W'.setCell ⟨j, 0, none⟩ v) :=
 ⟨by simpa using h.1, fun k o hk h1 h2 => (Below.heap_setCell _ _ _ k (by show k ≠ j; omega)).trans (h.2 k o hk h1 h2)⟩
theorem cell_other45 (w : World) (A : Nat) (v : Value) : (w.setCell ⟨A + 4, 0, none⟩ v).cell? ⟨A + 5, 0, none⟩ = w.cell? ⟨A + 5, 0, none⟩ := World.cell?_of_block (Below.heap_setCell _ _ _ (A + 5) (by show A + 5 ≠ A + 4; omega))
theorem RB.new (w : World) (p : Option Addr) (n : Int) (body : ByteArray) (SV : Value) :
    RB (((((((w.alloc (.cells #[.pointer p] 26)).alloc (.cells #[.int .i64 n] 3)).alloc (.cells #[.string body] 9)).alloc (.cells #[SV] 24)).alloc (.cells #[.int .i64 0] 3)).alloc (.cells #[.int .i64 (-1)] 3)).alloc (.cells #[SV] 24)) w.heap.size p n body SV 0 (-1) :=
  ⟨((((((Boxed.at rfl).alloc _).alloc _).alloc _).alloc _).alloc _).alloc _, (((((Boxed.at (by simp)).alloc _).alloc _).alloc _).alloc _).alloc _, ((((Boxed.at (by simp)).alloc _).alloc _).alloc _).alloc _,
   (((Boxed.at (by simp)).alloc _).alloc _).alloc _, ((Boxed.at (by simp)).alloc _).alloc _, (Boxed.at (by simp)).alloc _, Boxed.at (by simp)⟩
set_option maxRecDepth 100000 in
set_option maxHeartbeats 4000000 in
theorem right_in (m : Nat) (hn : 3 ≤ m) (p : Option Addr) (ds : List (List Int)) (n : Int) (body : ByteArray) (a : Option Addr) (cap : Nat) (rs : List Sg) (hlr : rs.length ≤ 100000) (w : World) (hG : Glob w) (hk : KeysAt w p ds) (hbd : ds = [] ∨ body.size ≤ 100000) (hat : SigsAt w a rs) :
  CallsIn Fence.wide m Tryz.prog 71 #[.pointer p, .int .i64 n, .string body, .slice a rs.length cap] w fun e W' => e = .returned (.int .i64 (runOf (okS ds body) n (-1) rs : Int)) ∧ Below w.heap.size w W' := by
 have h1 : 1 ≤ m := by omega
 have hro : Fence.wide.round = none := rfl
 have cA := signers_in Fence.wide (m - 1) trivial hro a rs.length cap
 have HAT := hide hat
 have HK := hide hk
 have HG := hide hG
 have HBD := hide hbd
 clear hat hk hG hbd
 refine callsIn_of_wp_marks Tryz.func71 rfl trivial ?_ hro
 simp only [Tryz.ntmps71, List.size_toArray, List.length_cons, List.length_nil, Nat.reduceAdd, Nat.reduceSub, Array.replicate_succ, Array.replicate_zero, List.push_toArray, List.append_toArray, List.nil_append, List.cons_append]
 gi_wp2
 refine wpIn_wide.2 (wp_scope_straight ((wpIn_wide (n := m)).1 ?_))
 gi_wp2
 refine wpIn_label ?_
 gi_wp2_with (refine And.intro trivial ?_; gi_at_call 111; refine (cA _).mono ?_; rintro e w2 ⟨rfl, rfl⟩)
 clear cA
 simp only [Nat.add_assoc, Nat.reduceAdd]
 have bx := RB.new w p n body (.slice a rs.length cap)
 have hB3 : Below w.heap.size w (((((((w.alloc (.cells #[.pointer p] 26)).alloc (.cells #[.int .i64 n] 3)).alloc (.cells #[.string body] 9)).alloc (.cells #[.slice a rs.length cap] 24)).alloc (.cells #[.int .i64 0] 3)).alloc (.cells #[.int .i64 (-1)] 3)).alloc (.cells #[.slice a rs.length cap] 24)) :=
  (((((((Below.refl _ w).alloc (Nat.le_refl _) _).alloc (by simp) _).alloc (by simp; omega) _).alloc (by simp; omega) _).alloc (by simp; omega) _).alloc (by simp; omega) _).alloc (by simp; omega) _
 have hsz : (((((((w.alloc (.cells #[.pointer p] 26)).alloc (.cells #[.int .i64 n] 3)).alloc (.cells #[.string body] 9)).alloc (.cells #[.slice a rs.length cap] 24)).alloc (.cells #[.int .i64 0] 3)).alloc (.cells #[.int .i64 (-1)] 3)).alloc (.cells #[.slice a rs.length cap] 24)).heap.size = w.heap.size + 7 := by simp
 obtain ⟨w3, hw3⟩ : ∃ w3, Hid ((((((((w.alloc (.cells #[.pointer p] 26)).alloc (.cells #[.int .i64 n] 3)).alloc (.cells #[.string body] 9)).alloc (.cells #[.slice a rs.length cap] 24)).alloc (.cells #[.int .i64 0] 3)).alloc (.cells #[.int .i64 (-1)] 3)).alloc (.cells #[.slice a rs.length cap] 24)) = w3) := ⟨_, hide rfl⟩
 rw [hw3.out] at bx hB3 hsz ⊢
 have hbs : w.heap.size + 6 < w3.heap.size := by omega
 have hws : w.heap.size ≤ w3.heap.size := by omega
 clear hw3 hsz
 obtain ⟨A, hA⟩ : ∃ A, Hid (w.heap.size = A) := ⟨_, hide rfl⟩
 rw [hA.out] at bx hB3 hbs hws ⊢
 have ST := signersF_stops Fence.wide (m - 1) trivial hro (by omega) (A + 6) A a cap rs hlr w3 hbs hws bx.b6.cell (HAT.out.below (by rw [hA.out]; exact hB3)) (by have := HAT.out.lo; rw [hA.out] at this; exact this)
 refine wpIn_rangeFunc_ownG hro h1 (gf := 148) (lb := #[.pointer (some ⟨A + 6, 0, none⟩)]) rfl trivial (enters_of Tryz.func148 (by kernel_rfl) rfl)
  ST (fun h k => h.tr k) (keepsB_b hws hbs) (Below.refl _ _) (fun _ => rfl)
  (fun pre W => RB W A p n body (.slice a rs.length cap) (pre.length : Int) (lastN (-1) (atF rs pre)) ∧ Below A w W ∧ runOf (okS ds body) n (-1) (atF rs pre) = pre.length)
  (fun c xs W => c = .exit 0 ∧ ∃ (mm : List (Fin rs.length)) (x : Fin rs.length), xs = mm ++ [x] ∧ RB W A p n body (.slice a rs.length cap) (mm.length : Int) (lastN (-1) (atF rs mm)) ∧ Below A w W ∧ runOf (okS ds body) n (-1) (atF rs mm) = mm.length ∧ (rs[x.val].n ≤ lastN (-1) (atF rs mm) ∨ n ≤ rs[x.val].n ∨ okS ds body rs[x.val] = false))
  (OwnFrom.and (Own.from (RB.own A p n body (.slice a rs.length cap) (fun pre : List (Fin rs.length) => (pre.length : Int)) (fun pre => lastN (-1) (atF rs pre))) _) (OwnFrom.and (ownFrom_below (by rw [hA.out]; exact Nat.le_refl _) hws) (fun _ _ _ _ h _ _ => h)))
  (fun c s X Y row h hg hrow => by
   obtain ⟨hc, mm, x, e, hb, hB, hr⟩ := h
   exact ⟨hc, mm, x, e, (RB.own (β := Unit) A p n body (.slice a rs.length cap) (fun _ => _) (fun _ => _)) () X Y row hb hg (fun r er => (hrow r er).2), hB.grown hg (by have := hb.b6.lt; omega) (fun k ek => Nat.le_trans hws (hrow k ek).1), hr⟩)
  ⟨bx, hB3, rfl⟩
  (fun x => { tmps := #[.pointer p, .int .i64 n, .string body, .slice a rs.length cap, .pointer (some ⟨A, 0, none⟩), .pointer (some ⟨A + 1, 0, none⟩), .pointer (some ⟨A + 2, 0, none⟩), .pointer (some ⟨A + 3, 0, none⟩), .int .i64 0, .pointer (some ⟨A + 4, 0, none⟩), .pointer (some ⟨A + 5, 0, none⟩), .int .i64 (x.val : Int), .int .i64 (rs[x.val].n), .slice a rs.length cap, .func (.func 148) #[] #[.pointer (some ⟨A + 6, 0, none⟩)], .int .i64 (x.val : Int), .int .i64 (rs[x.val].n), undef, undef, undef, undef, undef, undef, undef, undef, undef, undef, undef, undef, undef, undef, undef, undef, undef, undef, undef, undef, undef, undef], defers := [] }) ?assign ?body ?done ?stop
 case assign =>
  intro l x W K hK
  gi_wp2
  exact hK
 case body =>
  rintro l pre x W ⟨hbx, hB, hrun⟩ hlt
  have c5 := hbx.b5.cell
  have c1 := hbx.b1.cell
  obtain ⟨N, hN⟩ : ∃ N, Hid (rs[x.val].n = N) := ⟨_, hide rfl⟩
  obtain ⟨ah, hah⟩ : ∃ N, Hid (lastN (-1) (atF rs pre) = N) := ⟨_, hide rfl⟩
  have HBX := hide hbx
  have HR := hide hrun
  rw [hah.out] at c5
  rw [hN.out]
  clear hbx hrun
  by_cases g1 : N ≤ ah
  ·gi_wp2
   exact ⟨below_keepsFrom (Below.refl _ _) _, rfl, pre, x, rfl, HBX.out, hB, HR.out, .inl (by rw [hN.out, hah.out]; exact g1)⟩
  by_cases g2 : n ≤ N
  ·gi_wp2
   exact ⟨below_keepsFrom (Below.refl _ _) _, rfl, pre, x, rfl, HBX.out, hB, HR.out, .inr (.inl (by rw [hN.out]; exact g2))⟩
  have hlx := x.isLt
  have k1 : (x.val : Int) < rs.length := by omega
  obtain ⟨b, off, rfl, hb, hre⟩ := (HAT.out.below (by rw [hA.out]; exact hB)).elem x.val hlx
  have hok : rs[x.val].ok := HAT.out.2.1 _ (List.getElem_mem hlx)
  obtain ⟨r, hr⟩ : ∃ r, Hid (rs[x.val] = r) := ⟨_, hide rfl⟩
  have cs := fun w0 g0 k0 => signed_any p ds body r w0 g0 k0 HBD.out (by rw [← hr.out]; exact hok)
  have HOK : Hid (okS ds body rs[x.val] = checkOf (signOf ds r.n body) r.t) := hide (by rw [hr.out]; rfl)
  have hiu : (Tryz.prog.info? 56).map (·.size) = some r.cells.length := by rw [← hr.out]; exact hok.isz
  rw [hr.out] at hre
  obtain ⟨u, hu⟩ : ∃ u, Hid (r.cells = u) := ⟨_, hide rfl⟩
  rw [hu.out] at hre hiu
  simp only [hu.out] at cs
  obtain ⟨B, hBe⟩ : ∃ B, Hid (checkOf (signOf ds r.n body) r.t = B) := ⟨_, hide rfl⟩
  simp only [hBe.out] at cs
  rw [hBe.out] at HOK
  have c0 := HBX.out.b0.cell
  have c2 := HBX.out.b2.cell
  have c3 := HBX.out.b3.cell
  have c4 := HBX.out.b4.cell
  have l0 := HBX.out.b0.lt
  have l2 := HBX.out.b2.lt
  have l3 := HBX.out.b3.lt
  clear hok hu hBe
  gi_upto_region 6 with fail
  obtain ⟨w5, hw5⟩ : ∃ w5, W.drew = w5 := ⟨_, rfl⟩
  have hW5 : Below W.heap.size W w5 := by rw [← hw5]; exact (Below.refl _ _).drew
  refine hi_begin (S := (Below w5.heap.size w5)) 9 rfl (by kernel_rfl) (by kernel_rfl) (fun ⟨_, _, h⟩ => h) ?_
  rw [hw5]
  have hre5 := range_below hre hW5 hb
  have hb5 := Nat.lt_of_lt_of_le hb hW5.size
  have c0' := (hW5.cell (p := ⟨A, 0, none⟩) l0).trans c0
  have c2' := (hW5.cell (p := ⟨A + 2, 0, none⟩) l2).trans c2
  have c3' := (hW5.cell (p := ⟨A + 3, 0, none⟩) l3).trans c3
  have l0' := Nat.lt_of_lt_of_le l0 hW5.size
  have l2' := Nat.lt_of_lt_of_le l2 hW5.size
  have l3' := Nat.lt_of_lt_of_le l3 hW5.size
  have hBw5 : Below A w w5 := hB.trans (hW5.mono (by have := HBX.out.b0.lt; omega))
  clear c0 c2 c3 l0 l2 l3 hre hb c4 c5 c1
  have hS : (Below w5.heap.size w5) w5 := Below.refl _ _
  refine hs_t 0 27 (?_) rfl (by kernel_rfl) (by kernel_rfl) (by kernel_rfl) (by rfl) ?_ hS rfl ?_
  rotate_left
  ·intro w' hw
   have hc := (hw.cell (p := ⟨A, 0, none⟩) l0').trans c0'
   go_simp
   try with_reducible rfl
  simp only [nz]
  refine hs_t 1 28 (?_) rfl (by kernel_rfl) (by kernel_rfl) (by kernel_rfl) (by rfl) ?_ hS rfl ?_
  rotate_left
  ·intro w' hw
   have hc := (hw.cell (p := ⟨A + 2, 0, none⟩) l2').trans c2'
   go_simp
   try with_reducible rfl
  simp only [nz]
  refine hs_t 2 29 (?_) rfl (by kernel_rfl) (by kernel_rfl) (by kernel_rfl) (by rfl) ?_ hS rfl ?_
  rotate_left
  ·intro w' hw
   have hc := (hw.cell (p := ⟨A + 3, 0, none⟩) l3').trans c3'
   go_simp
   try with_reducible rfl
  simp only [nz]
  refine hs_t 3 30 (?_) rfl (by kernel_rfl) (by kernel_rfl) (by kernel_rfl) (by rfl) ?_ hS rfl ?_
  rotate_left
  ·intro w' hw
   go_simp
   try with_reducible rfl
  simp only [nz]
  refine hs_t 4 31 (?_) rfl (by kernel_rfl) (by kernel_rfl) (by kernel_rfl) (by rfl) ?_ hS rfl ?_
  rotate_left
  ·intro w' hw
   go_simp
   try with_reducible rfl
  simp only [nz]
  refine hs_t 5 32 (.agg u.toArray) rfl (by kernel_rfl) (by kernel_rfl) (by kernel_rfl) (by rfl) (fun w' hw => exec_load rfl rfl (run_loadVar_mid (P := Tryz.prog) w' b (off + x.val * 17) 56 u _ (range_below hre5 hw hb5) Tryz.underlying56 rfl hiu)) hS rfl ?_
  simp only [nz]
  refine hs_call (i := 6) (d := some 33) rfl (by kernel_rfl) (by rfl) (by go_simp; first | done | exact ⟨rfl, rfl⟩ | with_reducible rfl) rfl ?_
  refine (cs w5 (HG.out.below (by rw [hA.out]; exact hBw5)) (HK.out.below (by rw [hA.out]; exact hBw5))).mono ?_
  rintro e' w6 ⟨rfl, hw6⟩
  have hS : (Below w5.heap.size w5) w6 := hw6
  refine ⟨_, rfl, hS, ?_⟩
  simp only [nz]
  have hW6 : Below W.heap.size W w6 := hW5.trans (hw6.mono hW5.size)
  have HB6 := hide (HBX.out.below hW6)
  have d4 := HB6.out.b4.cell
  have f4 := HB6.out.b4.frozen
  have d5 := HB6.out.b5.cell
  have f5 := HB6.out.b5.frozen
  have q45 := cell_other45 w6 A
  rw [hah.out] at d5
  have hBA : Below A W w6 := hW6.mono (by have := HBX.out.b0.lt; omega)
  have hBw6 : Below A w w6 := hB.trans hBA
  have hpl : pre.length < rs.length := hlt
  clear hlt c0' c2' c3' l0' l2' l3' hre5 hb5 hw5 cs hiu
  cases B
  ·refine hs_t 7 34 (?_) rfl (by kernel_rfl) (by kernel_rfl) (by kernel_rfl) (by rfl) ?_ hS rfl ?_
   rotate_left
   ·intro w' hw
    go_simp
    try with_reducible rfl
   simp only [nz]
   refine hs_t 8 26 (?_) rfl (by kernel_rfl) (by kernel_rfl) (by kernel_rfl) (by rfl) ?_ hS rfl ?_
   rotate_left
   ·intro w' hw
    go_simp
    try with_reducible rfl
   simp only [nz]
   refine hs_done (by kernel_rfl) ?_
   gi_wp2
   exact ⟨below_keepsFrom hW6 _, rfl, pre, x, rfl, HB6.out, hBw6, HR.out, .inr (.inr HOK.out)⟩
  ·refine hs_t 7 34 (?_) rfl (by kernel_rfl) (by kernel_rfl) (by kernel_rfl) (by rfl) ?_ hS rfl ?_
   rotate_left
   ·intro w' hw
    go_simp
    try with_reducible rfl
   simp only [nz]
   refine hs_t 8 26 (?_) rfl (by kernel_rfl) (by kernel_rfl) (by kernel_rfl) (by rfl) ?_ hS rfl ?_
   rotate_left
   ·intro w' hw
    go_simp
    try with_reducible rfl
   simp only [nz]
   refine hs_done (by kernel_rfl) ?_
   gi_wp2
   have HST := HB6.out.step ((pre.length : Int) + 1) N
   have e1 : ((pre ++ [x]).length : Int) = (pre.length : Int) + 1 := by rw [List.length_append]; rfl
   have e2 : lastN (-1) (atF rs (pre ++ [x])) = N := by rw [atF_snoc, lastN_snoc]; exact hN.out
   refine ⟨keepsFrom_set (keepsFrom_set (below_keepsFrom hW6 _) (by omega) _) (by omega) _, ⟨(hBA.setCell (p := ⟨A + 4, 0, none⟩) (by show A ≤ A + 4; omega) _).setCell (p := ⟨A + 5, 0, none⟩) (by show A ≤ A + 5; omega) _, fun _ => HST.b6.trans HBX.out.b6.symm⟩, ?_, (hBw6.setCell (p := ⟨A + 4, 0, none⟩) (by show A ≤ A + 4; omega) _).setCell (p := ⟨A + 5, 0, none⟩) (by show A ≤ A + 5; omega) _, ?_⟩
   ·rw [e1, e2]; exact HST
   ·rw [atF_snoc, run_snoc (atF rs pre) (-1) (by rw [HR.out, atF_length]) (by rw [hN.out, hah.out]; omega) (by rw [hN.out]; omega) HOK.out, List.length_append, List.length_append, atF_length]; rfl
 case done =>
  rintro D ys W hD rfl ⟨hbx, hB, hrun⟩ hK
  rw [List.length_finRange] at hbx hrun
  rw [atF_all] at hrun
  have hc := hbx.b4.cell
  gi_wp2
  refine ⟨by simp, .inl ⟨_, _, rfl, run_takeDeferred hK, ?_⟩⟩
  exact ⟨_, results_tmp rfl _ _ _, by rw [hrun]; rfl, by rw [hA.out]; exact hB.trans (belowK_b (w := w) (by rw [hA.out]; exact Nat.le_refl _) W D _ _ (by rw [hA.out]; omega) hK rfl rfl)⟩
 case stop =>
  rintro D c pre W hD hpre ⟨rfl, mm, x, rfl, hbx, hB, hrun, hbad⟩ hK
  have hst := run_stop hpre hrun hbad
  have hc := hbx.b4.cell
  gi_wp2
  refine ⟨by simp, .inl ⟨_, _, rfl, run_takeDeferred hK, ?_⟩⟩
  exact ⟨_, results_tmp rfl _ _ _, by rw [hst]; rfl, by rw [hA.out]; exact hB.trans (belowK_b (w := w) (by rw [hA.out]; exact Nat.le_refl _) W D _ _ (by rw [hA.out]; omega) hK rfl rfl)⟩
theorem right_any (p : Option Addr) (ds : List (List Int)) (n : Int) (body : ByteArray) (a : Option Addr) (cap : Nat) (rs : List Sg) (hlr : rs.length ≤ 100000) (w : World) (hG : Glob w) (hk : KeysAt w p ds) (hbd : ds = [] ∨ body.size ≤ 100000) (hat : SigsAt w a rs) :
  Calls Tryz.prog 71 #[.pointer p, .int .i64 n, .string body, .slice a rs.length cap] w fun e W' => e = .returned (.int .i64 (runOf (okS ds body) n (-1) rs : Int)) ∧ Below w.heap.size w W' :=
 (callsIn_wide (n := 8)).1 (right_in 8 (by decide) p ds n body a cap rs hlr w hG hk hbd hat)
open Go.RowKit Go.Shelf
open Sha Tal
def qcheckV (ok : Sg → Bool) (n : Int) (rs : List Sg) (need : Int) : Int :=
 if goodB n = false ∨ need < 1 ∨ n < need then 2 else if (rs.length : Int) < need ∨ n < rs.length then 50 else if runOf ok n (-1) rs < rs.length then 50 else 0
set_option maxRecDepth 100000 in
set_option maxHeartbeats 2000000 in
theorem qcheck_any (p : Option Addr) (ds : List (List Int)) (n : Int) (body : ByteArray) (a : Option Addr) (cap : Nat) (rs : List Sg) (need : Int) (hlr : rs.length ≤ 100000) (w : World) (hG : Glob w) (hk : KeysAt w p ds) (hds : ds ≠ []) (hbd : body.size ≤ 100000) (hat : SigsAt w a rs) :
  Calls Tryz.prog 29 #[.pointer p, .int .i64 n, .string body, .slice a rs.length cap, .int .i64 need] w fun e w' => e = .returned (.int .i64 (qcheckV (okS ds body) n rs need)) ∧ Below w.heap.size w w' := by
 have ck := fun w0 h0 => klen_any p ds w0 h0
 have cr := right_any p ds n body a cap rs hlr w hG hk (.inr hbd) hat
 have hle := runOf_le (okS ds body) n rs (-1)
 have hdl : ds.length ≠ 0 := fun h => hds (List.eq_nil_of_length_eq_zero h)
 obtain ⟨L, hL⟩ : ∃ L, Hid (ds.length = L) := ⟨_, hide rfl⟩
 rw [hL.out] at hdl
 simp only [hL.out] at ck
 unfold qcheckV
 obtain ⟨c, hc⟩ : ∃ c, Hid (runOf (okS ds body) n (-1) rs = c) := ⟨_, hide rfl⟩
 rw [hc.out] at cr hle ⊢
 have hl0 : ((L : Int) == 0) = false := by simp; omega
 clear hL hc hds hbd
 by_cases g0 : goodB n = true
 rotate_left
 ·have g0' : goodB n = false := by simpa using g0
  rw [if_pos (.inl g0')]
  have cg := fun w0 => good_false g0' w0
  clear g0 g0' cr
  go_enter Tryz.func29, Tryz.ntmps29
  go_wp2_with (first | (go_at_call 27; refine (ck _ hk).mono ?_; rintro e w1 ⟨rfl, rfl⟩) | (go_at_call 42; refine (cg _).mono ?_; rintro e w1 ⟨rfl, rfl⟩))
  go_ret
  exact ⟨rfl, Below.refl _ _⟩
 have cg := fun w0 => good_true g0 w0
 by_cases g1 : need < 1
 ·rw [if_pos (.inr (.inl g1))]
  clear cr
  go_enter Tryz.func29, Tryz.ntmps29
  go_wp2_with (first | (go_at_call 27; refine (ck _ hk).mono ?_; rintro e w1 ⟨rfl, rfl⟩) | (go_at_call 42; refine (cg _).mono ?_; rintro e w1 ⟨rfl, rfl⟩))
  go_ret
  exact ⟨rfl, Below.refl _ _⟩
 by_cases g2 : n < need
 ·rw [if_pos (.inr (.inr g2))]
  clear cr
  go_enter Tryz.func29, Tryz.ntmps29
  go_wp2_with (first | (go_at_call 27; refine (ck _ hk).mono ?_; rintro e w1 ⟨rfl, rfl⟩) | (go_at_call 42; refine (cg _).mono ?_; rintro e w1 ⟨rfl, rfl⟩))
  go_ret
  exact ⟨rfl, Below.refl _ _⟩
 rw [if_neg (by rw [g0]; simp; omega)]
 by_cases g3 : (rs.length : Int) < need
 ·rw [if_pos (.inl g3)]
  clear cr
  go_enter Tryz.func29, Tryz.ntmps29
  go_wp2_with (first | (go_at_call 27; refine (ck _ hk).mono ?_; rintro e w1 ⟨rfl, rfl⟩) | (go_at_call 42; refine (cg _).mono ?_; rintro e w1 ⟨rfl, rfl⟩))
  go_ret
  exact ⟨rfl, Below.refl _ _⟩
 by_cases g4 : n < (rs.length : Int)
 ·rw [if_pos (.inr g4)]
  clear cr
  go_enter Tryz.func29, Tryz.ntmps29
  go_wp2_with (first | (go_at_call 27; refine (ck _ hk).mono ?_; rintro e w1 ⟨rfl, rfl⟩) | (go_at_call 42; refine (cg _).mono ?_; rintro e w1 ⟨rfl, rfl⟩))
  go_ret
  exact ⟨rfl, Below.refl _ _⟩
 rw [if_neg (by omega)]
 by_cases g5 : c < rs.length
 ·rw [if_pos g5]
  have g5' : (c : Int) < rs.length := by omega
  go_enter Tryz.func29, Tryz.ntmps29
  go_wp2_with (first | (go_at_call 27; refine (ck _ hk).mono ?_; rintro e w1 ⟨rfl, rfl⟩) | (go_at_call 42; refine (cg _).mono ?_; rintro e w1 ⟨rfl, rfl⟩) | (go_at_call 71; refine cr.mono ?_; rintro e w1 ⟨rfl, hw1⟩))
  go_ret
  exact ⟨rfl, hw1⟩
 ·rw [if_neg g5]
  have g5' : ¬ (c : Int) < rs.length := by omega
  go_enter Tryz.func29, Tryz.ntmps29
  go_wp2_with (first | (go_at_call 27; refine (ck _ hk).mono ?_; rintro e w1 ⟨rfl, rfl⟩) | (go_at_call 42; refine (cg _).mono ?_; rintro e w1 ⟨rfl, rfl⟩) | (go_at_call 71; refine cr.mono ?_; rintro e w1 ⟨rfl, hw1⟩))
  go_ret
  exact ⟨rfl, hw1⟩
open Go.RowKit Go.Shelf
open Sha Tal
theorem lastN_ge {ok : Sg → Bool} {n : Int} : ∀ (m : List Sg) (ah : Int), runOf ok n ah m = m.length → ah ≤ lastN ah m
  | [], _, _ => Int.le_refl _
  | y :: m, ah, h => by
    obtain ⟨h1, h2, h3⟩ := run_whole h
    have := lastN_ge m y.n h3
    show ah ≤ lastN y.n m
    omega
theorem lastN_take (rs : List Sg) (j : Nat) (hj : j < rs.length) : lastN (-1) (rs.take (j + 1)) = rs[j].n := by
 rw [List.take_succ_eq_append_getElem hj, lastN_snoc]
theorem run_take {ok : Sg → Bool} {n : Int} {rs : List Sg} {k : Nat} (hk : k < rs.length) (h : runOf ok n (-1) (rs.take k) = k) (g1 : ¬ rs[k].n ≤ lastN (-1) (rs.take k)) (g2 : ¬ n ≤ rs[k].n) (g3 : ok rs[k] = true) : runOf ok n (-1) (rs.take (k + 1)) = k + 1 := by
 rw [List.take_succ_eq_append_getElem hk, run_snoc (rs.take k) (-1) (by rw [h, List.length_take]; omega) g1 g2 g3, List.length_append, List.length_take]
 simp; omega
theorem run_bad {ok : Sg → Bool} {n : Int} {rs : List Sg} {k : Nat} (hk : k < rs.length) (h : runOf ok n (-1) (rs.take k) = k) (g : rs[k].n ≤ lastN (-1) (rs.take k) ∨ n ≤ rs[k].n ∨ ok rs[k] = false) : runOf ok n (-1) rs < rs.length := by
 have e : rs.take k ++ (rs[k] :: rs.drop (k + 1)) = rs := by rw [← List.drop_eq_getElem_cons hk, List.take_append_drop]
 have := run_cut (rs.drop (k + 1)) (rs.take k) (-1) (by rw [h, List.length_take]; omega) g
 rw [e, List.length_take] at this
 omega
set_option maxRecDepth 100000 in
set_option maxHeartbeats 8000000 in
theorem refQCheck_any (seed : ByteArray) (N n : Int) (body : ByteArray) (a : Option Addr) (cap : Nat) (rs : List Sg) (need : Int) (hlr : rs.length ≤ 100000) (w : World) (hs : seed.size ≤ 100000) (hN : N ≤ 100000) (hbd : body.size ≤ 100000) (hat : SigsAt w a rs) :
  Calls Tryz.prog 30 #[.agg #[.string seed, .int .i64 N], .int .i64 n, .string body, .slice a rs.length cap, .int .i64 need] w fun e w' => e = .returned (.int .i64 (qcheckV (fun s => checkOf (refSignOf seed N s.n body) s.t) n rs need)) ∧ Below w.heap.size w w' := by
 have cc := fun id t w0 ht => refCheck_any seed N id body t w0 hs hN hbd ht
 obtain ⟨ok, hok⟩ : ∃ ok : Sg → Bool, Hid ((fun s : Sg => checkOf (refSignOf seed N s.n body) s.t) = ok) := ⟨_, hide rfl⟩
 have hoks : ∀ s : Sg, checkOf (refSignOf seed N s.n body) s.t = ok s := fun s => congrFun hok.out s
 rw [hok.out]
 have hB1 : Below w.heap.size w (w.alloc (.cells #[.string seed, .int .i64 N] 28)) := (Below.refl _ _).alloc (Nat.le_refl _) _
 unfold qcheckV
 clear hok hs hN hbd
 by_cases g0 : goodB n = true
 rotate_left
 ·have g0' : goodB n = false := by simpa using g0
  rw [if_pos (.inl g0')]
  have cg := fun w0 => refGood_false g0' w0
  clear g0 g0' cc
  go_enter Tryz.func30, Tryz.ntmps30
  go_wp2_with (go_at_call 72; refine (cg _).mono ?_; rintro e w2 ⟨rfl, hw2⟩; replace hw2 := hw2.symm; subst hw2)
  go_ret
  exact ⟨rfl, hB1⟩
 have cg := fun w0 => refGood_true g0 w0
 by_cases g1 : need < 1
 ·rw [if_pos (.inr (.inl g1))]
  clear cc
  go_enter Tryz.func30, Tryz.ntmps30
  go_wp2_with (go_at_call 72; refine (cg _).mono ?_; rintro e w2 ⟨rfl, hw2⟩; replace hw2 := hw2.symm; subst hw2)
  go_ret
  exact ⟨rfl, hB1⟩
 by_cases g2 : n < need
 ·rw [if_pos (.inr (.inr g2))]
  clear cc
  go_enter Tryz.func30, Tryz.ntmps30
  go_wp2_with (go_at_call 72; refine (cg _).mono ?_; rintro e w2 ⟨rfl, hw2⟩; replace hw2 := hw2.symm; subst hw2)
  go_ret
  exact ⟨rfl, hB1⟩
 rw [if_neg (by rw [g0]; simp; omega)]
 by_cases g3 : (rs.length : Int) < need
 ·rw [if_pos (.inl g3)]
  clear cc
  go_enter Tryz.func30, Tryz.ntmps30
  go_wp2_with (go_at_call 72; refine (cg _).mono ?_; rintro e w2 ⟨rfl, hw2⟩; replace hw2 := hw2.symm; subst hw2)
  go_ret
  exact ⟨rfl, hB1⟩
 by_cases g4 : n < (rs.length : Int)
 ·rw [if_pos (.inr g4)]
  clear cc
  go_enter Tryz.func30, Tryz.ntmps30
  go_wp2_with (go_at_call 72; refine (cg _).mono ?_; rintro e w2 ⟨rfl, hw2⟩; replace hw2 := hw2.symm; subst hw2)
  go_ret
  exact ⟨rfl, hB1⟩
 rw [if_neg (by omega)]
 have hR1 : (w.alloc (.cells #[.string seed, .int .i64 N] 28)).rangeAt w.heap.size 0 [.string seed, .int .i64 N] := by simpa using range_new w #[.string seed, .int .i64 N] 28
 have hX1 : w.heap.size < (w.alloc (.cells #[.string seed, .int .i64 N] 28)).heap.size := by simp
 have hat1 := hat.below hB1
 have hall := hat.2.1
 have hik : (Tryz.prog.info? 28).map (·.size) = some [Value.string seed, Value.int .i64 N].length := by kernel_rfl
 obtain ⟨V, hV⟩ : ∃ V : Int, Hid ((if runOf ok n (-1) rs < rs.length then 50 else 0) = V) := ⟨_, hide rfl⟩
 rw [hV.out]
 go_enter Tryz.func30, Tryz.ntmps30
 go_upto_region 1 with fail
 go_name_world w1 hw1
 rw [hw1] at hB1 hR1 hX1 hat1
 clear hw1
 obtain ⟨X, hX⟩ : ∃ X, Hid (w.heap.size = X) := ⟨_, hide rfl⟩
 rw [hX.out] at hR1 hX1 ⊢
 go_wp2_with (go_at_call 72; refine (cg _).mono ?_; rintro e w2 ⟨rfl, hw2⟩; replace hw2 := hw2.symm; subst hw2)
 go_loopw [11] (fun iv wr => ∃ k : Nat, k ≤ rs.length ∧ iv = .int .i64 (k : Int) ∧ Hid (runOf ok n (-1) (rs.take k) = k) ∧ Below w1.heap.size w1 wr) (fun iv _ => rs.length - (intOf iv).toNat)
 case atStart => exact ⟨0, by omega, rfl, hide rfl, Below.refl _ _⟩
 case round =>
  obtain ⟨k, hk, rfl, HM, hB⟩ := hrel
  by_cases hlt : k < rs.length
  ·have k1 : (k : Int) < rs.length := by omega
   obtain ⟨b, off, rfl, hb, hre⟩ := (hat1.below hB).elem k hlt
   obtain ⟨r, hr⟩ : ∃ r, Hid (rs[k] = r) := ⟨_, hide rfl⟩
   have hrk : r.ok := by rw [← hr.out]; exact hall _ (List.getElem_mem hlt)
   rw [hr.out] at hre
   have c0 := Sg.first hre
   have ht : wr.rangeAt b (off + k * 17 + 1) (v8 r.t) := fun i v hv => by
    have := hre (i + 1) v (by simpa [Sg.cells] using hv)
    rw [show off + k * 17 + 1 + i = off + k * 17 + (i + 1) by omega]; exact this
   have htl := hrk.tl
   obtain ⟨D, hD⟩ : ∃ D, Hid (r.n = D) := ⟨_, hide rfl⟩
   obtain ⟨T, hT⟩ : ∃ T, Hid (r.t = T) := ⟨_, hide rfl⟩
   have HOK : Hid (checkOf (refSignOf seed N D body) T = ok rs[k]) := hide (by rw [hr.out, ← hoks r, hD.out, hT.out])
   have HD : Hid (rs[k].n = D) := hide (by rw [hr.out]; exact hD.out)
   rw [hD.out] at c0
   rw [hT.out] at ht htl
   obtain ⟨ah, hah⟩ : ∃ N, Hid (lastN (-1) (rs.take k) = N) := ⟨_, hide rfl⟩
   have hge : -1 ≤ ah := by rw [← hah.out]; exact lastN_ge (ok := ok) (n := n) _ _ (by rw [HM.out, List.length_take]; omega)
   have HBAD : Hid (D ≤ ah ∨ n ≤ D ∨ ok rs[k] = false → V = 50) := hide (fun hb => by
    rw [← hV.out, if_pos (run_bad hlt HM.out (by rw [HD.out, hah.out]; exact hb))])
   have HGOOD : Hid (¬ D ≤ ah → ¬ n ≤ D → ok rs[k] = true → runOf ok n (-1) (rs.take (k + 1)) = k + 1) := hide (fun q1 q2 q3 =>
    run_take hlt HM.out (by rw [HD.out, hah.out]; exact q1) (by rw [HD.out]; exact q2) q3)
   have HP : Hid (∀ j (hj : j < rs.length), k = j + 1 → ah = rs[j].n) := hide (fun j hj e => by subst e; rw [← hah.out]; exact lastN_take rs j hj)
   have H0 : Hid (k = 0 → ah = -1) := hide (fun e => by subst e; rw [← hah.out]; rfl)
   have hRk := range_below hR1 hB hX1
   have hXk := Nat.lt_of_lt_of_le hX1 hB.size
   have hl16 : (Tryz.prog.info? 51).map (·.size) = some (v8 T).length := by rw [v8_length, htl]; exact iszT
   have cch := fun w0 => cc D T w0 htl
   simp only [HOK.out] at cch
   obtain ⟨B, hBe⟩ : ∃ B, Hid (ok rs[k] = B) := ⟨_, hide rfl⟩
   rw [hBe.out] at HBAD HGOOD
   simp only [hBe.out] at cch
   clear hr hrk hD hT HOK HD hre hBe HM
   go_upto_region 8 with fail
   obtain ⟨w5, hw5⟩ : ∃ w5, wr.drew = w5 := ⟨_, rfl⟩
   have hW5 : Below wr.heap.size wr w5 := by rw [← hw5]; exact (Below.refl _ _).drew
   refine hs_begin (S := (Below w5.heap.size w5)) 49 rfl (by kernel_rfl) ?_
   rw [hw5]
   have c5 := (hW5.cell (p := ⟨b, off + k * 17, none⟩) hb).trans c0
   have ht5 := range_below ht hW5 hb
   have hR5 := range_below hRk hW5 hXk
   have hX5 := Nat.lt_of_lt_of_le hXk hW5.size
   have hb5 := Nat.lt_of_lt_of_le hb hW5.size
   have hB5 : Below w1.heap.size w1 w5 := hB.trans (hW5.mono hB.size)
   clear c0 ht hRk hXk hb hw5 hW5 hB
   have hS : (Below w5.heap.size w5) w5 := Below.refl _ _
   by_cases q1 : D < 0
   ·refine hs_t 0 40 (?_) rfl (by kernel_rfl) (by kernel_rfl) (by kernel_rfl) (by rfl) ?_ hS rfl ?_
    rotate_left
    ·intro w' hw
     go_simp
     try with_reducible rfl
    simp only [nz]
    refine hs_t 1 41 (?_) rfl (by kernel_rfl) (by kernel_rfl) (by kernel_rfl) (by rfl) ?_ hS rfl ?_
    rotate_left
    ·intro w' hw
     go_simp
     try with_reducible rfl
    simp only [nz]
    refine hs_t 2 42 (?_) rfl (by kernel_rfl) (by kernel_rfl) (by kernel_rfl) (by rfl) ?_ hS rfl ?_
    rotate_left
    ·intro w' hw
     go_simp
     try with_reducible rfl
    simp only [nz]
    refine hs_t 3 43 (?_) rfl (by kernel_rfl) (by kernel_rfl) (by kernel_rfl) (by rfl) ?_ hS rfl ?_
    rotate_left
    ·intro w' hw
     go_simp
     try with_reducible rfl
    simp only [nz]
    refine hs_t 4 44 (?_) rfl (by kernel_rfl) (by kernel_rfl) (by kernel_rfl) (by rfl) ?_ hS rfl ?_
    rotate_left
    ·intro w' hw
     have hc := (hw.cell (p := ⟨b, off + k * 17, none⟩) hb5).trans c5
     go_simp
     try with_reducible rfl
    simp only [nz]
    refine hs_t 5 45 (?_) rfl (by kernel_rfl) (by kernel_rfl) (by kernel_rfl) (by rfl) ?_ hS rfl ?_
    rotate_left
    ·intro w' hw
     go_simp
     try with_reducible rfl
    simp only [nz]
    refine hs_t 6 46 (?_) rfl (by kernel_rfl) (by kernel_rfl) (by kernel_rfl) (by rfl) ?_ hS rfl ?_
    rotate_left
    ·intro w' hw
     go_simp
     try with_reducible rfl
    simp only [nz]
    refine hs_skip (i := 7) (d := some 47) rfl (by kernel_rfl) (by kernel_rfl) (by kernel_rfl) (by rfl) hS rfl ?_
    simp only [nz]
    refine hs_skip (i := 8) (d := some 48) rfl (by kernel_rfl) (by kernel_rfl) (by kernel_rfl) (by rfl) hS rfl ?_
    simp only [nz]
    refine hs_skip (i := 9) (d := some 49) rfl (by kernel_rfl) (by kernel_rfl) (by kernel_rfl) (by rfl) hS rfl ?_
    simp only [nz]
    refine hs_skip (i := 10) (d := some 50) rfl (by kernel_rfl) (by kernel_rfl) (by kernel_rfl) (by rfl) hS rfl ?_
    simp only [nz]
    refine hs_skip (i := 11) (d := some 51) rfl (by kernel_rfl) (by kernel_rfl) (by kernel_rfl) (by rfl) hS rfl ?_
    simp only [nz]
    refine hs_skip (i := 12) (d := some 52) rfl (by kernel_rfl) (by kernel_rfl) (by kernel_rfl) (by rfl) hS rfl ?_
    simp only [nz]
    refine hs_skip (i := 13) (d := some 53) rfl (by kernel_rfl) (by kernel_rfl) (by kernel_rfl) (by rfl) hS rfl ?_
    simp only [nz]
    refine hs_t 14 54 (?_) rfl (by kernel_rfl) (by kernel_rfl) (by kernel_rfl) (by rfl) ?_ hS rfl ?_
    rotate_left
    ·intro w' hw
     go_simp
     try with_reducible rfl
    simp only [nz]
    refine hs_t 15 55 (?_) rfl (by kernel_rfl) (by kernel_rfl) (by kernel_rfl) (by rfl) ?_ hS rfl ?_
    rotate_left
    ·intro w' hw
     go_simp
     try with_reducible rfl
    simp only [nz]
    refine hs_skip (i := 16) (d := some 56) rfl (by kernel_rfl) (by kernel_rfl) (by kernel_rfl) (by rfl) hS rfl ?_
    simp only [nz]
    refine hs_skip (i := 17) (d := some 57) rfl (by kernel_rfl) (by kernel_rfl) (by kernel_rfl) (by rfl) hS rfl ?_
    simp only [nz]
    refine hs_skip (i := 18) (d := some 58) rfl (by kernel_rfl) (by kernel_rfl) (by kernel_rfl) (by rfl) hS rfl ?_
    simp only [nz]
    refine hs_skip (i := 19) (d := some 59) rfl (by kernel_rfl) (by kernel_rfl) (by kernel_rfl) (by rfl) hS rfl ?_
    simp only [nz]
    refine hs_skip (i := 20) (d := some 60) rfl (by kernel_rfl) (by kernel_rfl) (by kernel_rfl) (by rfl) hS rfl ?_
    simp only [nz]
    refine hs_skip (i := 21) (d := some 61) rfl (by kernel_rfl) (by kernel_rfl) (by kernel_rfl) (by rfl) hS rfl ?_
    simp only [nz]
    refine hs_skip (i := 22) (d := some 62) rfl (by kernel_rfl) (by kernel_rfl) (by kernel_rfl) (by rfl) hS rfl ?_
    simp only [nz]
    refine hs_skip (i := 23) (d := some 63) rfl (by kernel_rfl) (by kernel_rfl) (by kernel_rfl) (by rfl) hS rfl ?_
    simp only [nz]
    refine hs_skip (i := 24) (d := some 64) rfl (by kernel_rfl) (by kernel_rfl) (by kernel_rfl) (by rfl) hS rfl ?_
    simp only [nz]
    refine hs_skip (i := 25) (d := some 65) rfl (by kernel_rfl) (by kernel_rfl) (by kernel_rfl) (by rfl) hS rfl ?_
    simp only [nz]
    refine hs_skip (i := 26) (d := some 66) rfl (by kernel_rfl) (by kernel_rfl) (by kernel_rfl) (by rfl) hS rfl ?_
    simp only [nz]
    refine hs_skip (i := 27) (d := some 67) rfl (by kernel_rfl) (by kernel_rfl) (by kernel_rfl) (by rfl) hS rfl ?_
    simp only [nz]
    refine hs_skip (i := 28) (d := some 68) rfl (by kernel_rfl) (by kernel_rfl) (by kernel_rfl) (by rfl) hS rfl ?_
    simp only [nz]
    refine hs_skip (i := 29) (d := some 69) rfl (by kernel_rfl) (by kernel_rfl) (by kernel_rfl) (by rfl) hS rfl ?_
    simp only [nz]
    refine hs_skip (i := 30) (d := some 70) rfl (by kernel_rfl) (by kernel_rfl) (by kernel_rfl) (by rfl) hS rfl ?_
    simp only [nz]
    refine hs_skip (i := 31) (d := some 71) rfl (by kernel_rfl) (by kernel_rfl) (by kernel_rfl) (by rfl) hS rfl ?_
    simp only [nz]
    refine hs_t 32 72 (?_) rfl (by kernel_rfl) (by kernel_rfl) (by kernel_rfl) (by rfl) ?_ hS rfl ?_
    rotate_left
    ·intro w' hw
     go_simp
     try with_reducible rfl
    simp only [nz]
    refine hs_t 33 73 (?_) rfl (by kernel_rfl) (by kernel_rfl) (by kernel_rfl) (by rfl) ?_ hS rfl ?_
    rotate_left
    ·intro w' hw
     go_simp
     try with_reducible rfl
    simp only [nz]
    refine hs_skip (i := 34) (d := some 74) rfl (by kernel_rfl) (by kernel_rfl) (by kernel_rfl) (by rfl) hS rfl ?_
    simp only [nz]
    refine hs_skip (i := 35) (d := some 75) rfl (by kernel_rfl) (by kernel_rfl) (by kernel_rfl) (by rfl) hS rfl ?_
    simp only [nz]
    refine hs_skip (i := 36) (d := some 76) rfl (by kernel_rfl) (by kernel_rfl) (by kernel_rfl) (by rfl) hS rfl ?_
    simp only [nz]
    refine hs_skip (i := 37) (d := some 77) rfl (by kernel_rfl) (by kernel_rfl) (by kernel_rfl) (by rfl) hS rfl ?_
    simp only [nz]
    refine hs_skip (i := 38) (d := some 78) rfl (by kernel_rfl) (by kernel_rfl) (by kernel_rfl) (by rfl) hS rfl ?_
    simp only [nz]
    refine hs_skip (i := 39) (d := some 79) rfl (by kernel_rfl) (by kernel_rfl) (by kernel_rfl) (by rfl) hS rfl ?_
    simp only [nz]
    refine hs_skip (i := 40) (d := some 80) rfl (by kernel_rfl) (by kernel_rfl) (by kernel_rfl) (by rfl) hS rfl ?_
    simp only [nz]
    refine hs_skip (i := 41) (d := some 81) rfl (by kernel_rfl) (by kernel_rfl) (by kernel_rfl) (by rfl) hS rfl ?_
    simp only [nz]
    refine hs_skip (i := 42) (d := some 82) rfl (by kernel_rfl) (by kernel_rfl) (by kernel_rfl) (by rfl) hS rfl ?_
    simp only [nz]
    refine hs_skip (i := 43) (d := some 83) rfl (by kernel_rfl) (by kernel_rfl) (by kernel_rfl) (by rfl) hS rfl ?_
    simp only [nz]
    refine hs_skip (i := 44) (d := some 84) rfl (by kernel_rfl) (by kernel_rfl) (by kernel_rfl) (by rfl) hS rfl ?_
    simp only [nz]
    refine hs_skip (i := 45) (d := some 85) rfl (by kernel_rfl) (by kernel_rfl) (by kernel_rfl) (by rfl) hS rfl ?_
    simp only [nz]
    refine hs_skip (i := 46) (d := some 86) rfl (by kernel_rfl) (by kernel_rfl) (by kernel_rfl) (by rfl) hS rfl ?_
    simp only [nz]
    refine hs_skip (i := 47) (d := some 87) rfl (by kernel_rfl) (by kernel_rfl) (by kernel_rfl) (by rfl) hS rfl ?_
    simp only [nz]
    refine hs_t 48 88 (?_) rfl (by kernel_rfl) (by kernel_rfl) (by kernel_rfl) (by rfl) ?_ hS rfl ?_
    rotate_left
    ·intro w' hw
     go_simp
     try with_reducible rfl
    simp only [nz]
    refine hs_done (by kernel_rfl) ?_
    go_wp2
    go_ret
    exact ⟨by rw [HBAD.out (.inl (by omega))]; rfl, hB1.trans (hB5.mono hB1.size)⟩
   by_cases q2 : n ≤ D
   ·refine hs_t 0 40 (?_) rfl (by kernel_rfl) (by kernel_rfl) (by kernel_rfl) (by rfl) ?_ hS rfl ?_
    rotate_left
    ·intro w' hw
     go_simp
     try with_reducible rfl
    simp only [nz]
    refine hs_t 1 41 (?_) rfl (by kernel_rfl) (by kernel_rfl) (by kernel_rfl) (by rfl) ?_ hS rfl ?_
    rotate_left
    ·intro w' hw
     go_simp
     try with_reducible rfl
    simp only [nz]
    refine hs_t 2 42 (?_) rfl (by kernel_rfl) (by kernel_rfl) (by kernel_rfl) (by rfl) ?_ hS rfl ?_
    rotate_left
    ·intro w' hw
     go_simp
     try with_reducible rfl
    simp only [nz]
    refine hs_t 3 43 (?_) rfl (by kernel_rfl) (by kernel_rfl) (by kernel_rfl) (by rfl) ?_ hS rfl ?_
    rotate_left
    ·intro w' hw
     go_simp
     try with_reducible rfl
    simp only [nz]
    refine hs_t 4 44 (?_) rfl (by kernel_rfl) (by kernel_rfl) (by kernel_rfl) (by rfl) ?_ hS rfl ?_
    rotate_left
    ·intro w' hw
     have hc := (hw.cell (p := ⟨b, off + k * 17, none⟩) hb5).trans c5
     go_simp
     try with_reducible rfl
    simp only [nz]
    refine hs_t 5 45 (?_) rfl (by kernel_rfl) (by kernel_rfl) (by kernel_rfl) (by rfl) ?_ hS rfl ?_
    rotate_left
    ·intro w' hw
     go_simp
     try with_reducible rfl
    simp only [nz]
    refine hs_t 6 46 (?_) rfl (by kernel_rfl) (by kernel_rfl) (by kernel_rfl) (by rfl) ?_ hS rfl ?_
    rotate_left
    ·intro w' hw
     go_simp
     try with_reducible rfl
    simp only [nz]
    refine hs_t 7 47 (?_) rfl (by kernel_rfl) (by kernel_rfl) (by kernel_rfl) (by rfl) ?_ hS rfl ?_
    rotate_left
    ·intro w' hw
     go_simp
     try with_reducible rfl
    simp only [nz]
    refine hs_t 8 48 (?_) rfl (by kernel_rfl) (by kernel_rfl) (by kernel_rfl) (by rfl) ?_ hS rfl ?_
    rotate_left
    ·intro w' hw
     go_simp
     try with_reducible rfl
    simp only [nz]
    refine hs_t 9 49 (?_) rfl (by kernel_rfl) (by kernel_rfl) (by kernel_rfl) (by rfl) ?_ hS rfl ?_
    rotate_left
    ·intro w' hw
     go_simp
     try with_reducible rfl
    simp only [nz]
    refine hs_t 10 50 (?_) rfl (by kernel_rfl) (by kernel_rfl) (by kernel_rfl) (by rfl) ?_ hS rfl ?_
    rotate_left
    ·intro w' hw
     go_simp
     try with_reducible rfl
    simp only [nz]
    refine hs_t 11 51 (?_) rfl (by kernel_rfl) (by kernel_rfl) (by kernel_rfl) (by rfl) ?_ hS rfl ?_
    rotate_left
    ·intro w' hw
     have hc := (hw.cell (p := ⟨b, off + k * 17, none⟩) hb5).trans c5
     go_simp
     try with_reducible rfl
    simp only [nz]
    refine hs_t 12 52 (?_) rfl (by kernel_rfl) (by kernel_rfl) (by kernel_rfl) (by rfl) ?_ hS rfl ?_
    rotate_left
    ·intro w' hw
     go_simp
     try with_reducible rfl
    simp only [nz]
    refine hs_t 13 53 (?_) rfl (by kernel_rfl) (by kernel_rfl) (by kernel_rfl) (by rfl) ?_ hS rfl ?_
    rotate_left
    ·intro w' hw
     go_simp
     try with_reducible rfl
    simp only [nz]
    refine hs_t 14 54 (?_) rfl (by kernel_rfl) (by kernel_rfl) (by kernel_rfl) (by rfl) ?_ hS rfl ?_
    rotate_left
    ·intro w' hw
     go_simp
     try with_reducible rfl
    simp only [nz]
    refine hs_t 15 55 (?_) rfl (by kernel_rfl) (by kernel_rfl) (by kernel_rfl) (by rfl) ?_ hS rfl ?_
    rotate_left
    ·intro w' hw
     go_simp
     try with_reducible rfl
    simp only [nz]
    refine hs_skip (i := 16) (d := some 56) rfl (by kernel_rfl) (by kernel_rfl) (by kernel_rfl) (by rfl) hS rfl ?_
    simp only [nz]
    refine hs_skip (i := 17) (d := some 57) rfl (by kernel_rfl) (by kernel_rfl) (by kernel_rfl) (by rfl) hS rfl ?_
    simp only [nz]
    refine hs_skip (i := 18) (d := some 58) rfl (by kernel_rfl) (by kernel_rfl) (by kernel_rfl) (by rfl) hS rfl ?_
    simp only [nz]
    refine hs_skip (i := 19) (d := some 59) rfl (by kernel_rfl) (by kernel_rfl) (by kernel_rfl) (by rfl) hS rfl ?_
    simp only [nz]
    refine hs_skip (i := 20) (d := some 60) rfl (by kernel_rfl) (by kernel_rfl) (by kernel_rfl) (by rfl) hS rfl ?_
    simp only [nz]
    refine hs_skip (i := 21) (d := some 61) rfl (by kernel_rfl) (by kernel_rfl) (by kernel_rfl) (by rfl) hS rfl ?_
    simp only [nz]
    refine hs_skip (i := 22) (d := some 62) rfl (by kernel_rfl) (by kernel_rfl) (by kernel_rfl) (by rfl) hS rfl ?_
    simp only [nz]
    refine hs_skip (i := 23) (d := some 63) rfl (by kernel_rfl) (by kernel_rfl) (by kernel_rfl) (by rfl) hS rfl ?_
    simp only [nz]
    refine hs_skip (i := 24) (d := some 64) rfl (by kernel_rfl) (by kernel_rfl) (by kernel_rfl) (by rfl) hS rfl ?_
    simp only [nz]
    refine hs_skip (i := 25) (d := some 65) rfl (by kernel_rfl) (by kernel_rfl) (by kernel_rfl) (by rfl) hS rfl ?_
    simp only [nz]
    refine hs_skip (i := 26) (d := some 66) rfl (by kernel_rfl) (by kernel_rfl) (by kernel_rfl) (by rfl) hS rfl ?_
    simp only [nz]
    refine hs_skip (i := 27) (d := some 67) rfl (by kernel_rfl) (by kernel_rfl) (by kernel_rfl) (by rfl) hS rfl ?_
    simp only [nz]
    refine hs_skip (i := 28) (d := some 68) rfl (by kernel_rfl) (by kernel_rfl) (by kernel_rfl) (by rfl) hS rfl ?_
    simp only [nz]
    refine hs_skip (i := 29) (d := some 69) rfl (by kernel_rfl) (by kernel_rfl) (by kernel_rfl) (by rfl) hS rfl ?_
    simp only [nz]
    refine hs_skip (i := 30) (d := some 70) rfl (by kernel_rfl) (by kernel_rfl) (by kernel_rfl) (by rfl) hS rfl ?_
    simp only [nz]
    refine hs_skip (i := 31) (d := some 71) rfl (by kernel_rfl) (by kernel_rfl) (by kernel_rfl) (by rfl) hS rfl ?_
    simp only [nz]
    refine hs_t 32 72 (?_) rfl (by kernel_rfl) (by kernel_rfl) (by kernel_rfl) (by rfl) ?_ hS rfl ?_
    rotate_left
    ·intro w' hw
     go_simp
     try with_reducible rfl
    simp only [nz]
    refine hs_t 33 73 (?_) rfl (by kernel_rfl) (by kernel_rfl) (by kernel_rfl) (by rfl) ?_ hS rfl ?_
    rotate_left
    ·intro w' hw
     go_simp
     try with_reducible rfl
    simp only [nz]
    refine hs_skip (i := 34) (d := some 74) rfl (by kernel_rfl) (by kernel_rfl) (by kernel_rfl) (by rfl) hS rfl ?_
    simp only [nz]
    refine hs_skip (i := 35) (d := some 75) rfl (by kernel_rfl) (by kernel_rfl) (by kernel_rfl) (by rfl) hS rfl ?_
    simp only [nz]
    refine hs_skip (i := 36) (d := some 76) rfl (by kernel_rfl) (by kernel_rfl) (by kernel_rfl) (by rfl) hS rfl ?_
    simp only [nz]
    refine hs_skip (i := 37) (d := some 77) rfl (by kernel_rfl) (by kernel_rfl) (by kernel_rfl) (by rfl) hS rfl ?_
    simp only [nz]
    refine hs_skip (i := 38) (d := some 78) rfl (by kernel_rfl) (by kernel_rfl) (by kernel_rfl) (by rfl) hS rfl ?_
    simp only [nz]
    refine hs_skip (i := 39) (d := some 79) rfl (by kernel_rfl) (by kernel_rfl) (by kernel_rfl) (by rfl) hS rfl ?_
    simp only [nz]
    refine hs_skip (i := 40) (d := some 80) rfl (by kernel_rfl) (by kernel_rfl) (by kernel_rfl) (by rfl) hS rfl ?_
    simp only [nz]
    refine hs_skip (i := 41) (d := some 81) rfl (by kernel_rfl) (by kernel_rfl) (by kernel_rfl) (by rfl) hS rfl ?_
    simp only [nz]
    refine hs_skip (i := 42) (d := some 82) rfl (by kernel_rfl) (by kernel_rfl) (by kernel_rfl) (by rfl) hS rfl ?_
    simp only [nz]
    refine hs_skip (i := 43) (d := some 83) rfl (by kernel_rfl) (by kernel_rfl) (by kernel_rfl) (by rfl) hS rfl ?_
    simp only [nz]
    refine hs_skip (i := 44) (d := some 84) rfl (by kernel_rfl) (by kernel_rfl) (by kernel_rfl) (by rfl) hS rfl ?_
    simp only [nz]
    refine hs_skip (i := 45) (d := some 85) rfl (by kernel_rfl) (by kernel_rfl) (by kernel_rfl) (by rfl) hS rfl ?_
    simp only [nz]
    refine hs_skip (i := 46) (d := some 86) rfl (by kernel_rfl) (by kernel_rfl) (by kernel_rfl) (by rfl) hS rfl ?_
    simp only [nz]
    refine hs_skip (i := 47) (d := some 87) rfl (by kernel_rfl) (by kernel_rfl) (by kernel_rfl) (by rfl) hS rfl ?_
    simp only [nz]
    refine hs_t 48 88 (?_) rfl (by kernel_rfl) (by kernel_rfl) (by kernel_rfl) (by rfl) ?_ hS rfl ?_
    rotate_left
    ·intro w' hw
     go_simp
     try with_reducible rfl
    simp only [nz]
    refine hs_done (by kernel_rfl) ?_
    go_wp2
    go_ret
    exact ⟨by rw [HBAD.out (.inr (.inl q2))]; rfl, hB1.trans (hB5.mono hB1.size)⟩
   by_cases q3 : k = 0
   ·have Q3 := hide q3
    clear q3
    refine hs_t 0 40 (?_) rfl (by kernel_rfl) (by kernel_rfl) (by kernel_rfl) (by rfl) ?_ hS rfl ?_
    rotate_left
    ·intro w' hw
     go_simp
     try with_reducible rfl
    simp only [nz]
    refine hs_t 1 41 (?_) rfl (by kernel_rfl) (by kernel_rfl) (by kernel_rfl) (by rfl) ?_ hS rfl ?_
    rotate_left
    ·intro w' hw
     go_simp
     try with_reducible rfl
    simp only [nz]
    refine hs_t 2 42 (?_) rfl (by kernel_rfl) (by kernel_rfl) (by kernel_rfl) (by rfl) ?_ hS rfl ?_
    rotate_left
    ·intro w' hw
     go_simp
     try with_reducible rfl
    simp only [nz]
    refine hs_t 3 43 (?_) rfl (by kernel_rfl) (by kernel_rfl) (by kernel_rfl) (by rfl) ?_ hS rfl ?_
    rotate_left
    ·intro w' hw
     go_simp
     try with_reducible rfl
    simp only [nz]
    refine hs_t 4 44 (?_) rfl (by kernel_rfl) (by kernel_rfl) (by kernel_rfl) (by rfl) ?_ hS rfl ?_
    rotate_left
    ·intro w' hw
     have hc := (hw.cell (p := ⟨b, off + k * 17, none⟩) hb5).trans c5
     go_simp
     try with_reducible rfl
    simp only [nz]
    refine hs_t 5 45 (?_) rfl (by kernel_rfl) (by kernel_rfl) (by kernel_rfl) (by rfl) ?_ hS rfl ?_
    rotate_left
    ·intro w' hw
     go_simp
     try with_reducible rfl
    simp only [nz]
    refine hs_t 6 46 (?_) rfl (by kernel_rfl) (by kernel_rfl) (by kernel_rfl) (by rfl) ?_ hS rfl ?_
    rotate_left
    ·intro w' hw
     go_simp
     try with_reducible rfl
    simp only [nz]
    refine hs_t 7 47 (?_) rfl (by kernel_rfl) (by kernel_rfl) (by kernel_rfl) (by rfl) ?_ hS rfl ?_
    rotate_left
    ·intro w' hw
     go_simp
     try with_reducible rfl
    simp only [nz]
    refine hs_t 8 48 (?_) rfl (by kernel_rfl) (by kernel_rfl) (by kernel_rfl) (by rfl) ?_ hS rfl ?_
    rotate_left
    ·intro w' hw
     go_simp
     try with_reducible rfl
    simp only [nz]
    refine hs_t 9 49 (?_) rfl (by kernel_rfl) (by kernel_rfl) (by kernel_rfl) (by rfl) ?_ hS rfl ?_
    rotate_left
    ·intro w' hw
     go_simp
     try with_reducible rfl
    simp only [nz]
    refine hs_t 10 50 (?_) rfl (by kernel_rfl) (by kernel_rfl) (by kernel_rfl) (by rfl) ?_ hS rfl ?_
    rotate_left
    ·intro w' hw
     go_simp
     try with_reducible rfl
    simp only [nz]
    refine hs_t 11 51 (?_) rfl (by kernel_rfl) (by kernel_rfl) (by kernel_rfl) (by rfl) ?_ hS rfl ?_
    rotate_left
    ·intro w' hw
     have hc := (hw.cell (p := ⟨b, off + k * 17, none⟩) hb5).trans c5
     go_simp
     try with_reducible rfl
    simp only [nz]
    refine hs_t 12 52 (?_) rfl (by kernel_rfl) (by kernel_rfl) (by kernel_rfl) (by rfl) ?_ hS rfl ?_
    rotate_left
    ·intro w' hw
     go_simp
     try with_reducible rfl
    simp only [nz]
    refine hs_t 13 53 (?_) rfl (by kernel_rfl) (by kernel_rfl) (by kernel_rfl) (by rfl) ?_ hS rfl ?_
    rotate_left
    ·intro w' hw
     go_simp
     try with_reducible rfl
    simp only [nz]
    refine hs_t 14 54 (?_) rfl (by kernel_rfl) (by kernel_rfl) (by kernel_rfl) (by rfl) ?_ hS rfl ?_
    rotate_left
    ·intro w' hw
     go_simp
     try with_reducible rfl
    simp only [nz]
    refine hs_t 15 55 (?_) rfl (by kernel_rfl) (by kernel_rfl) (by kernel_rfl) (by rfl) ?_ hS rfl ?_
    rotate_left
    ·intro w' hw
     go_simp
     try with_reducible rfl
    simp only [nz]
    refine hs_t 16 56 (?_) rfl (by kernel_rfl) (by kernel_rfl) (by kernel_rfl) (by rfl) ?_ hS rfl ?_
    rotate_left
    ·intro w' hw
     go_simp
     try with_reducible rfl
    simp only [nz]
    refine hs_t 17 57 (.bool false) rfl (by kernel_rfl) (by kernel_rfl) (by kernel_rfl) (by rfl) (fun w' hw => by have Q := Q3.out; clear q1 q2; go_simp; first | done | exact Q | omega | (simp; omega)) hS rfl ?_
    simp only [nz]
    refine hs_t 18 58 (?_) rfl (by kernel_rfl) (by kernel_rfl) (by kernel_rfl) (by rfl) ?_ hS rfl ?_
    rotate_left
    ·intro w' hw
     go_simp
     try with_reducible rfl
    simp only [nz]
    refine hs_skip (i := 19) (d := some 59) rfl (by kernel_rfl) (by kernel_rfl) (by kernel_rfl) (by rfl) hS rfl ?_
    simp only [nz]
    refine hs_skip (i := 20) (d := some 60) rfl (by kernel_rfl) (by kernel_rfl) (by kernel_rfl) (by rfl) hS rfl ?_
    simp only [nz]
    refine hs_skip (i := 21) (d := some 61) rfl (by kernel_rfl) (by kernel_rfl) (by kernel_rfl) (by rfl) hS rfl ?_
    simp only [nz]
    refine hs_skip (i := 22) (d := some 62) rfl (by kernel_rfl) (by kernel_rfl) (by kernel_rfl) (by rfl) hS rfl ?_
    simp only [nz]
    refine hs_skip (i := 23) (d := some 63) rfl (by kernel_rfl) (by kernel_rfl) (by kernel_rfl) (by rfl) hS rfl ?_
    simp only [nz]
    refine hs_skip (i := 24) (d := some 64) rfl (by kernel_rfl) (by kernel_rfl) (by kernel_rfl) (by rfl) hS rfl ?_
    simp only [nz]
    refine hs_skip (i := 25) (d := some 65) rfl (by kernel_rfl) (by kernel_rfl) (by kernel_rfl) (by rfl) hS rfl ?_
    simp only [nz]
    refine hs_skip (i := 26) (d := some 66) rfl (by kernel_rfl) (by kernel_rfl) (by kernel_rfl) (by rfl) hS rfl ?_
    simp only [nz]
    refine hs_skip (i := 27) (d := some 67) rfl (by kernel_rfl) (by kernel_rfl) (by kernel_rfl) (by rfl) hS rfl ?_
    simp only [nz]
    refine hs_skip (i := 28) (d := some 68) rfl (by kernel_rfl) (by kernel_rfl) (by kernel_rfl) (by rfl) hS rfl ?_
    simp only [nz]
    refine hs_skip (i := 29) (d := some 69) rfl (by kernel_rfl) (by kernel_rfl) (by kernel_rfl) (by rfl) hS rfl ?_
    simp only [nz]
    refine hs_skip (i := 30) (d := some 70) rfl (by kernel_rfl) (by kernel_rfl) (by kernel_rfl) (by rfl) hS rfl ?_
    simp only [nz]
    refine hs_t 31 71 (?_) rfl (by kernel_rfl) (by kernel_rfl) (by kernel_rfl) (by rfl) ?_ hS rfl ?_
    rotate_left
    ·intro w' hw
     go_simp
     try with_reducible rfl
    simp only [nz]
    refine hs_t 32 72 (?_) rfl (by kernel_rfl) (by kernel_rfl) (by kernel_rfl) (by rfl) ?_ hS rfl ?_
    rotate_left
    ·intro w' hw
     go_simp
     try with_reducible rfl
    simp only [nz]
    refine hs_t 33 73 (?_) rfl (by kernel_rfl) (by kernel_rfl) (by kernel_rfl) (by rfl) ?_ hS rfl ?_
    rotate_left
    ·intro w' hw
     go_simp
     try with_reducible rfl
    simp only [nz]
    refine hs_t 34 74 (.agg #[.string seed, .int .i64 N]) rfl (by kernel_rfl) (by kernel_rfl) (by kernel_rfl) (by rfl) (fun w' hw => exec_load rfl rfl (run_loadVar_mid (P := Tryz.prog) w' X 0 28 [.string seed, .int .i64 N] _ (range_below hR5 hw hX5) Tryz.underlying28 rfl hik)) hS rfl ?_
    simp only [nz]
    refine hs_t 35 75 (?_) rfl (by kernel_rfl) (by kernel_rfl) (by kernel_rfl) (by rfl) ?_ hS rfl ?_
    rotate_left
    ·intro w' hw
     go_simp
     try with_reducible rfl
    simp only [nz]
    refine hs_t 36 76 (?_) rfl (by kernel_rfl) (by kernel_rfl) (by kernel_rfl) (by rfl) ?_ hS rfl ?_
    rotate_left
    ·intro w' hw
     go_simp
     try with_reducible rfl
    simp only [nz]
    refine hs_t 37 77 (?_) rfl (by kernel_rfl) (by kernel_rfl) (by kernel_rfl) (by rfl) ?_ hS rfl ?_
    rotate_left
    ·intro w' hw
     go_simp
     try with_reducible rfl
    simp only [nz]
    refine hs_t 38 78 (?_) rfl (by kernel_rfl) (by kernel_rfl) (by kernel_rfl) (by rfl) ?_ hS rfl ?_
    rotate_left
    ·intro w' hw
     go_simp
     try with_reducible rfl
    simp only [nz]
    refine hs_t 39 79 (?_) rfl (by kernel_rfl) (by kernel_rfl) (by kernel_rfl) (by rfl) ?_ hS rfl ?_
    rotate_left
    ·intro w' hw
     have hc := (hw.cell (p := ⟨b, off + k * 17, none⟩) hb5).trans c5
     go_simp
     try with_reducible rfl
    simp only [nz]
    refine hs_t 40 80 (?_) rfl (by kernel_rfl) (by kernel_rfl) (by kernel_rfl) (by rfl) ?_ hS rfl ?_
    rotate_left
    ·intro w' hw
     go_simp
     try with_reducible rfl
    simp only [nz]
    refine hs_t 41 81 (?_) rfl (by kernel_rfl) (by kernel_rfl) (by kernel_rfl) (by rfl) ?_ hS rfl ?_
    rotate_left
    ·intro w' hw
     go_simp
     try with_reducible rfl
    simp only [nz]
    refine hs_t 42 82 (?_) rfl (by kernel_rfl) (by kernel_rfl) (by kernel_rfl) (by rfl) ?_ hS rfl ?_
    rotate_left
    ·intro w' hw
     go_simp
     try with_reducible rfl
    simp only [nz]
    refine hs_t 43 83 (?_) rfl (by kernel_rfl) (by kernel_rfl) (by kernel_rfl) (by rfl) ?_ hS rfl ?_
    rotate_left
    ·intro w' hw
     go_simp
     try with_reducible rfl
    simp only [nz]
    refine hs_t 44 84 (?_) rfl (by kernel_rfl) (by kernel_rfl) (by kernel_rfl) (by rfl) ?_ hS rfl ?_
    rotate_left
    ·intro w' hw
     go_simp
     try with_reducible rfl
    simp only [nz]
    refine hs_t 45 85 (.agg (v8 T).toArray) rfl (by kernel_rfl) (by kernel_rfl) (by kernel_rfl) (by rfl) (fun w' hw => exec_load rfl rfl (run_loadVar_mid (P := Tryz.prog) w' b (off + k * 17 + 1) 51 (v8 T) _ (range_below ht5 hw hb5) Tryz.underlying51 rfl hl16)) hS rfl ?_
    simp only [nz]
    refine hs_call (i := 46) (d := some 86) rfl (by kernel_rfl) (by rfl) (by go_simp; first | done | exact ⟨rfl, rfl⟩ | with_reducible rfl) rfl ?_
    refine (cch w5).mono ?_
    rintro e' w6 ⟨rfl, hw6⟩
    have hS : (Below w5.heap.size w5) w6 := hw6
    refine ⟨_, rfl, hS, ?_⟩
    simp only [nz]
    have hB6 : Below w1.heap.size w1 w6 := hB5.trans (hw6.mono hB5.size)
    clear hw6 cch hl16 ht5 c5 hR5
    cases B
    ·refine hs_t 47 87 (?_) rfl (by kernel_rfl) (by kernel_rfl) (by kernel_rfl) (by rfl) ?_ hS rfl ?_
     rotate_left
     ·intro w' hw
      go_simp
      try with_reducible rfl
     simp only [nz]
     refine hs_t 48 88 (?_) rfl (by kernel_rfl) (by kernel_rfl) (by kernel_rfl) (by rfl) ?_ hS rfl ?_
     rotate_left
     ·intro w' hw
      go_simp
      try with_reducible rfl
     simp only [nz]
     refine hs_done (by kernel_rfl) ?_
     go_wp2
     go_ret
     exact ⟨by rw [HBAD.out (by simp)]; rfl, hB1.trans (hB6.mono hB1.size)⟩
    ·refine hs_t 47 87 (?_) rfl (by kernel_rfl) (by kernel_rfl) (by kernel_rfl) (by rfl) ?_ hS rfl ?_
     rotate_left
     ·intro w' hw
      go_simp
      try with_reducible rfl
     simp only [nz]
     refine hs_t 48 88 (?_) rfl (by kernel_rfl) (by kernel_rfl) (by kernel_rfl) (by rfl) ?_ hS rfl ?_
     rotate_left
     ·intro w' hw
      go_simp
      try with_reducible rfl
     simp only [nz]
     refine hs_done (by kernel_rfl) ?_
     go_wp2
     go_roundw
     case rel => exact ⟨k + 1, by omega, by go_num, hide (HGOOD.out (by have := H0.out Q3.out; omega) q2 rfl), hB6⟩
     case measure => simp [intOf]; omega
   ·have q3i : (0 : Int) < (k : Int) := by omega
    clear q3
    obtain ⟨j, hj⟩ : ∃ j, Hid (k = j + 1) := ⟨k - 1, hide (by omega)⟩
    have hjl : j < rs.length := by have := hj.out; omega
    have j1 : (j : Int) < rs.length := by omega
    obtain ⟨b2, off2, e2, _, hre2⟩ := (hat1.below hB5).elem j hjl
    obtain ⟨rfl, rfl⟩ : b = b2 ∧ off = off2 := by simpa using e2
    have p5 := Sg.first hre2
    have hP := HP.out j hjl hj.out
    obtain ⟨D2, hD2⟩ : ∃ D2, Hid (rs[j].n = D2) := ⟨_, hide rfl⟩
    rw [hD2.out] at p5 hP
    subst hP
    have kj : (k : Int) - 1 = (j : Int) := by have := hj.out; omega
    have hwj : IntKind.i64.wrap (j : Int) = (j : Int) := by rw [IntKind.wrap_i64]; omega
    clear hre2 hj hD2 e2
    by_cases q4 : D ≤ ah
    ·refine hs_t 0 40 (?_) rfl (by kernel_rfl) (by kernel_rfl) (by kernel_rfl) (by rfl) ?_ hS rfl ?_
     rotate_left
     ·intro w' hw
      go_simp
      try with_reducible rfl
     simp only [nz]
     refine hs_t 1 41 (?_) rfl (by kernel_rfl) (by kernel_rfl) (by kernel_rfl) (by rfl) ?_ hS rfl ?_
     rotate_left
     ·intro w' hw
      go_simp
      try with_reducible rfl
     simp only [nz]
     refine hs_t 2 42 (?_) rfl (by kernel_rfl) (by kernel_rfl) (by kernel_rfl) (by rfl) ?_ hS rfl ?_
     rotate_left
     ·intro w' hw
      go_simp
      try with_reducible rfl
     simp only [nz]
     refine hs_t 3 43 (?_) rfl (by kernel_rfl) (by kernel_rfl) (by kernel_rfl) (by rfl) ?_ hS rfl ?_
     rotate_left
     ·intro w' hw
      go_simp
      try with_reducible rfl
     simp only [nz]
     refine hs_t 4 44 (?_) rfl (by kernel_rfl) (by kernel_rfl) (by kernel_rfl) (by rfl) ?_ hS rfl ?_
     rotate_left
     ·intro w' hw
      have hc := (hw.cell (p := ⟨b, off + k * 17, none⟩) hb5).trans c5
      go_simp
      try with_reducible rfl
     simp only [nz]
     refine hs_t 5 45 (?_) rfl (by kernel_rfl) (by kernel_rfl) (by kernel_rfl) (by rfl) ?_ hS rfl ?_
     rotate_left
     ·intro w' hw
      go_simp
      try with_reducible rfl
     simp only [nz]
     refine hs_t 6 46 (?_) rfl (by kernel_rfl) (by kernel_rfl) (by kernel_rfl) (by rfl) ?_ hS rfl ?_
     rotate_left
     ·intro w' hw
      go_simp
      try with_reducible rfl
     simp only [nz]
     refine hs_t 7 47 (?_) rfl (by kernel_rfl) (by kernel_rfl) (by kernel_rfl) (by rfl) ?_ hS rfl ?_
     rotate_left
     ·intro w' hw
      go_simp
      try with_reducible rfl
     simp only [nz]
     refine hs_t 8 48 (?_) rfl (by kernel_rfl) (by kernel_rfl) (by kernel_rfl) (by rfl) ?_ hS rfl ?_
     rotate_left
     ·intro w' hw
      go_simp
      try with_reducible rfl
     simp only [nz]
     refine hs_t 9 49 (?_) rfl (by kernel_rfl) (by kernel_rfl) (by kernel_rfl) (by rfl) ?_ hS rfl ?_
     rotate_left
     ·intro w' hw
      go_simp
      try with_reducible rfl
     simp only [nz]
     refine hs_t 10 50 (?_) rfl (by kernel_rfl) (by kernel_rfl) (by kernel_rfl) (by rfl) ?_ hS rfl ?_
     rotate_left
     ·intro w' hw
      go_simp
      try with_reducible rfl
     simp only [nz]
     refine hs_t 11 51 (?_) rfl (by kernel_rfl) (by kernel_rfl) (by kernel_rfl) (by rfl) ?_ hS rfl ?_
     rotate_left
     ·intro w' hw
      have hc := (hw.cell (p := ⟨b, off + k * 17, none⟩) hb5).trans c5
      go_simp
      try with_reducible rfl
     simp only [nz]
     refine hs_t 12 52 (?_) rfl (by kernel_rfl) (by kernel_rfl) (by kernel_rfl) (by rfl) ?_ hS rfl ?_
     rotate_left
     ·intro w' hw
      go_simp
      try with_reducible rfl
     simp only [nz]
     refine hs_t 13 53 (?_) rfl (by kernel_rfl) (by kernel_rfl) (by kernel_rfl) (by rfl) ?_ hS rfl ?_
     rotate_left
     ·intro w' hw
      go_simp
      try with_reducible rfl
     simp only [nz]
     refine hs_t 14 54 (?_) rfl (by kernel_rfl) (by kernel_rfl) (by kernel_rfl) (by rfl) ?_ hS rfl ?_
     rotate_left
     ·intro w' hw
      go_simp
      try with_reducible rfl
     simp only [nz]
     refine hs_t 15 55 (?_) rfl (by kernel_rfl) (by kernel_rfl) (by kernel_rfl) (by rfl) ?_ hS rfl ?_
     rotate_left
     ·intro w' hw
      go_simp
      try with_reducible rfl
     simp only [nz]
     refine hs_t 16 56 (?_) rfl (by kernel_rfl) (by kernel_rfl) (by kernel_rfl) (by rfl) ?_ hS rfl ?_
     rotate_left
     ·intro w' hw
      go_simp
      try with_reducible rfl
     simp only [nz]
     refine hs_t 17 57 (.bool true) rfl (by kernel_rfl) (by kernel_rfl) (by kernel_rfl) (by rfl) (fun w' hw => by clear q1 q2; go_simp; first | done | omega | (simp; omega)) hS rfl ?_
     simp only [nz]
     refine hs_t 18 58 (?_) rfl (by kernel_rfl) (by kernel_rfl) (by kernel_rfl) (by rfl) ?_ hS rfl ?_
     rotate_left
     ·intro w' hw
      go_simp
      try with_reducible rfl
     simp only [nz]
     refine hs_t 19 59 (?_) rfl (by kernel_rfl) (by kernel_rfl) (by kernel_rfl) (by rfl) ?_ hS rfl ?_
     rotate_left
     ·intro w' hw
      go_simp
      try with_reducible rfl
     simp only [nz]
     refine hs_t 20 60 (?_) rfl (by kernel_rfl) (by kernel_rfl) (by kernel_rfl) (by rfl) ?_ hS rfl ?_
     rotate_left
     ·intro w' hw
      go_simp
      try with_reducible rfl
     simp only [nz]
     refine hs_t 21 61 (?_) rfl (by kernel_rfl) (by kernel_rfl) (by kernel_rfl) (by rfl) ?_ hS rfl ?_
     rotate_left
     ·intro w' hw
      go_simp
      try with_reducible rfl
     simp only [nz]
     refine hs_t 22 62 (?_) rfl (by kernel_rfl) (by kernel_rfl) (by kernel_rfl) (by rfl) ?_ hS rfl ?_
     rotate_left
     ·intro w' hw
      go_simp
      try with_reducible rfl
     simp only [nz]
     refine hs_t 23 63 (?_) rfl (by kernel_rfl) (by kernel_rfl) (by kernel_rfl) (by rfl) ?_ hS rfl ?_
     rotate_left
     ·intro w' hw
      have hc := (hw.cell (p := ⟨b, off + k * 17, none⟩) hb5).trans c5
      go_simp
      try with_reducible rfl
     simp only [nz]
     refine hs_t 24 64 (?_) rfl (by kernel_rfl) (by kernel_rfl) (by kernel_rfl) (by rfl) ?_ hS rfl ?_
     rotate_left
     ·intro w' hw
      go_simp
      try with_reducible rfl
     simp only [nz]
     refine hs_t 25 65 (?_) rfl (by kernel_rfl) (by kernel_rfl) (by kernel_rfl) (by rfl) ?_ hS rfl ?_
     rotate_left
     ·intro w' hw
      go_simp
      try with_reducible rfl
     simp only [nz]
     refine hs_t 26 66 (?_) rfl (by kernel_rfl) (by kernel_rfl) (by kernel_rfl) (by rfl) ?_ hS rfl ?_
     rotate_left
     ·intro w' hw
      go_simp
      try with_reducible rfl
     simp only [nz]
     refine hs_t 27 67 (?_) rfl (by kernel_rfl) (by kernel_rfl) (by kernel_rfl) (by rfl) ?_ hS rfl ?_
     rotate_left
     ·intro w' hw
      go_simp
      try with_reducible rfl
     simp only [nz]
     refine hs_t 28 68 (?_) rfl (by kernel_rfl) (by kernel_rfl) (by kernel_rfl) (by rfl) ?_ hS rfl ?_
     rotate_left
     ·intro w' hw
      go_simp
      try with_reducible rfl
     simp only [nz]
     refine hs_t 29 69 (?_) rfl (by kernel_rfl) (by kernel_rfl) (by kernel_rfl) (by rfl) ?_ hS rfl ?_
     rotate_left
     ·intro w' hw
      have hc := (hw.cell (p := ⟨b, off + j * 17, none⟩) hb5).trans p5
      go_simp
      try with_reducible rfl
     simp only [nz]
     refine hs_t 30 70 (?_) rfl (by kernel_rfl) (by kernel_rfl) (by kernel_rfl) (by rfl) ?_ hS rfl ?_
     rotate_left
     ·intro w' hw
      go_simp
      try with_reducible rfl
     simp only [nz]
     refine hs_t 31 71 (?_) rfl (by kernel_rfl) (by kernel_rfl) (by kernel_rfl) (by rfl) ?_ hS rfl ?_
     rotate_left
     ·intro w' hw
      go_simp
      try with_reducible rfl
     simp only [nz]
     refine hs_t 32 72 (?_) rfl (by kernel_rfl) (by kernel_rfl) (by kernel_rfl) (by rfl) ?_ hS rfl ?_
     rotate_left
     ·intro w' hw
      go_simp
      try with_reducible rfl
     simp only [nz]
     refine hs_t 33 73 (?_) rfl (by kernel_rfl) (by kernel_rfl) (by kernel_rfl) (by rfl) ?_ hS rfl ?_
     rotate_left
     ·intro w' hw
      go_simp
      try with_reducible rfl
     simp only [nz]
     refine hs_skip (i := 34) (d := some 74) rfl (by kernel_rfl) (by kernel_rfl) (by kernel_rfl) (by rfl) hS rfl ?_
     simp only [nz]
     refine hs_skip (i := 35) (d := some 75) rfl (by kernel_rfl) (by kernel_rfl) (by kernel_rfl) (by rfl) hS rfl ?_
     simp only [nz]
     refine hs_skip (i := 36) (d := some 76) rfl (by kernel_rfl) (by kernel_rfl) (by kernel_rfl) (by rfl) hS rfl ?_
     simp only [nz]
     refine hs_skip (i := 37) (d := some 77) rfl (by kernel_rfl) (by kernel_rfl) (by kernel_rfl) (by rfl) hS rfl ?_
     simp only [nz]
     refine hs_skip (i := 38) (d := some 78) rfl (by kernel_rfl) (by kernel_rfl) (by kernel_rfl) (by rfl) hS rfl ?_
     simp only [nz]
     refine hs_skip (i := 39) (d := some 79) rfl (by kernel_rfl) (by kernel_rfl) (by kernel_rfl) (by rfl) hS rfl ?_
     simp only [nz]
     refine hs_skip (i := 40) (d := some 80) rfl (by kernel_rfl) (by kernel_rfl) (by kernel_rfl) (by rfl) hS rfl ?_
     simp only [nz]
     refine hs_skip (i := 41) (d := some 81) rfl (by kernel_rfl) (by kernel_rfl) (by kernel_rfl) (by rfl) hS rfl ?_
     simp only [nz]
     refine hs_skip (i := 42) (d := some 82) rfl (by kernel_rfl) (by kernel_rfl) (by kernel_rfl) (by rfl) hS rfl ?_
     simp only [nz]
     refine hs_skip (i := 43) (d := some 83) rfl (by kernel_rfl) (by kernel_rfl) (by kernel_rfl) (by rfl) hS rfl ?_
     simp only [nz]
     refine hs_skip (i := 44) (d := some 84) rfl (by kernel_rfl) (by kernel_rfl) (by kernel_rfl) (by rfl) hS rfl ?_
     simp only [nz]
     refine hs_skip (i := 45) (d := some 85) rfl (by kernel_rfl) (by kernel_rfl) (by kernel_rfl) (by rfl) hS rfl ?_
     simp only [nz]
     refine hs_skip (i := 46) (d := some 86) rfl (by kernel_rfl) (by kernel_rfl) (by kernel_rfl) (by rfl) hS rfl ?_
     simp only [nz]
     refine hs_skip (i := 47) (d := some 87) rfl (by kernel_rfl) (by kernel_rfl) (by kernel_rfl) (by rfl) hS rfl ?_
     simp only [nz]
     refine hs_t 48 88 (?_) rfl (by kernel_rfl) (by kernel_rfl) (by kernel_rfl) (by rfl) ?_ hS rfl ?_
     rotate_left
     ·intro w' hw
      go_simp
      try with_reducible rfl
     simp only [nz]
     refine hs_done (by kernel_rfl) ?_
     go_wp2
     go_ret
     exact ⟨by rw [HBAD.out (.inl q4)]; rfl, hB1.trans (hB5.mono hB1.size)⟩
    ·refine hs_t 0 40 (?_) rfl (by kernel_rfl) (by kernel_rfl) (by kernel_rfl) (by rfl) ?_ hS rfl ?_
     rotate_left
     ·intro w' hw
      go_simp
      try with_reducible rfl
     simp only [nz]
     refine hs_t 1 41 (?_) rfl (by kernel_rfl) (by kernel_rfl) (by kernel_rfl) (by rfl) ?_ hS rfl ?_
     rotate_left
     ·intro w' hw
      go_simp
      try with_reducible rfl
     simp only [nz]
     refine hs_t 2 42 (?_) rfl (by kernel_rfl) (by kernel_rfl) (by kernel_rfl) (by rfl) ?_ hS rfl ?_
     rotate_left
     ·intro w' hw
      go_simp
      try with_reducible rfl
     simp only [nz]
     refine hs_t 3 43 (?_) rfl (by kernel_rfl) (by kernel_rfl) (by kernel_rfl) (by rfl) ?_ hS rfl ?_
     rotate_left
     ·intro w' hw
      go_simp
      try with_reducible rfl
     simp only [nz]
     refine hs_t 4 44 (?_) rfl (by kernel_rfl) (by kernel_rfl) (by kernel_rfl) (by rfl) ?_ hS rfl ?_
     rotate_left
     ·intro w' hw
      have hc := (hw.cell (p := ⟨b, off + k * 17, none⟩) hb5).trans c5
      go_simp
      try with_reducible rfl
     simp only [nz]
     refine hs_t 5 45 (?_) rfl (by kernel_rfl) (by kernel_rfl) (by kernel_rfl) (by rfl) ?_ hS rfl ?_
     rotate_left
     ·intro w' hw
      go_simp
      try with_reducible rfl
     simp only [nz]
     refine hs_t 6 46 (?_) rfl (by kernel_rfl) (by kernel_rfl) (by kernel_rfl) (by rfl) ?_ hS rfl ?_
     rotate_left
     ·intro w' hw
      go_simp
      try with_reducible rfl
     simp only [nz]
     refine hs_t 7 47 (?_) rfl (by kernel_rfl) (by kernel_rfl) (by kernel_rfl) (by rfl) ?_ hS rfl ?_
     rotate_left
     ·intro w' hw
      go_simp
      try with_reducible rfl
     simp only [nz]
     refine hs_t 8 48 (?_) rfl (by kernel_rfl) (by kernel_rfl) (by kernel_rfl) (by rfl) ?_ hS rfl ?_
     rotate_left
     ·intro w' hw
      go_simp
      try with_reducible rfl
     simp only [nz]
     refine hs_t 9 49 (?_) rfl (by kernel_rfl) (by kernel_rfl) (by kernel_rfl) (by rfl) ?_ hS rfl ?_
     rotate_left
     ·intro w' hw
      go_simp
      try with_reducible rfl
     simp only [nz]
     refine hs_t 10 50 (?_) rfl (by kernel_rfl) (by kernel_rfl) (by kernel_rfl) (by rfl) ?_ hS rfl ?_
     rotate_left
     ·intro w' hw
      go_simp
      try with_reducible rfl
     simp only [nz]
     refine hs_t 11 51 (?_) rfl (by kernel_rfl) (by kernel_rfl) (by kernel_rfl) (by rfl) ?_ hS rfl ?_
     rotate_left
     ·intro w' hw
      have hc := (hw.cell (p := ⟨b, off + k * 17, none⟩) hb5).trans c5
      go_simp
      try with_reducible rfl
     simp only [nz]
     refine hs_t 12 52 (?_) rfl (by kernel_rfl) (by kernel_rfl) (by kernel_rfl) (by rfl) ?_ hS rfl ?_
     rotate_left
     ·intro w' hw
      go_simp
      try with_reducible rfl
     simp only [nz]
     refine hs_t 13 53 (?_) rfl (by kernel_rfl) (by kernel_rfl) (by kernel_rfl) (by rfl) ?_ hS rfl ?_
     rotate_left
     ·intro w' hw
      go_simp
      try with_reducible rfl
     simp only [nz]
     refine hs_t 14 54 (?_) rfl (by kernel_rfl) (by kernel_rfl) (by kernel_rfl) (by rfl) ?_ hS rfl ?_
     rotate_left
     ·intro w' hw
      go_simp
      try with_reducible rfl
     simp only [nz]
     refine hs_t 15 55 (?_) rfl (by kernel_rfl) (by kernel_rfl) (by kernel_rfl) (by rfl) ?_ hS rfl ?_
     rotate_left
     ·intro w' hw
      go_simp
      try with_reducible rfl
     simp only [nz]
     refine hs_t 16 56 (?_) rfl (by kernel_rfl) (by kernel_rfl) (by kernel_rfl) (by rfl) ?_ hS rfl ?_
     rotate_left
     ·intro w' hw
      go_simp
      try with_reducible rfl
     simp only [nz]
     refine hs_t 17 57 (.bool true) rfl (by kernel_rfl) (by kernel_rfl) (by kernel_rfl) (by rfl) (fun w' hw => by clear q1 q2; go_simp; first | done | omega | (simp; omega)) hS rfl ?_
     simp only [nz]
     refine hs_t 18 58 (?_) rfl (by kernel_rfl) (by kernel_rfl) (by kernel_rfl) (by rfl) ?_ hS rfl ?_
     rotate_left
     ·intro w' hw
      go_simp
      try with_reducible rfl
     simp only [nz]
     refine hs_t 19 59 (?_) rfl (by kernel_rfl) (by kernel_rfl) (by kernel_rfl) (by rfl) ?_ hS rfl ?_
     rotate_left
     ·intro w' hw
      go_simp
      try with_reducible rfl
     simp only [nz]
     refine hs_t 20 60 (?_) rfl (by kernel_rfl) (by kernel_rfl) (by kernel_rfl) (by rfl) ?_ hS rfl ?_
     rotate_left
     ·intro w' hw
      go_simp
      try with_reducible rfl
     simp only [nz]
     refine hs_t 21 61 (?_) rfl (by kernel_rfl) (by kernel_rfl) (by kernel_rfl) (by rfl) ?_ hS rfl ?_
     rotate_left
     ·intro w' hw
      go_simp
      try with_reducible rfl
     simp only [nz]
     refine hs_t 22 62 (?_) rfl (by kernel_rfl) (by kernel_rfl) (by kernel_rfl) (by rfl) ?_ hS rfl ?_
     rotate_left
     ·intro w' hw
      go_simp
      try with_reducible rfl
     simp only [nz]
     refine hs_t 23 63 (?_) rfl (by kernel_rfl) (by kernel_rfl) (by kernel_rfl) (by rfl) ?_ hS rfl ?_
     rotate_left
     ·intro w' hw
      have hc := (hw.cell (p := ⟨b, off + k * 17, none⟩) hb5).trans c5
      go_simp
      try with_reducible rfl
     simp only [nz]
     refine hs_t 24 64 (?_) rfl (by kernel_rfl) (by kernel_rfl) (by kernel_rfl) (by rfl) ?_ hS rfl ?_
     rotate_left
     ·intro w' hw
      go_simp
      try with_reducible rfl
     simp only [nz]
     refine hs_t 25 65 (?_) rfl (by kernel_rfl) (by kernel_rfl) (by kernel_rfl) (by rfl) ?_ hS rfl ?_
     rotate_left
     ·intro w' hw
      go_simp
      try with_reducible rfl
     simp only [nz]
     refine hs_t 26 66 (?_) rfl (by kernel_rfl) (by kernel_rfl) (by kernel_rfl) (by rfl) ?_ hS rfl ?_
     rotate_left
     ·intro w' hw
      go_simp
      try with_reducible rfl
     simp only [nz]
     refine hs_t 27 67 (?_) rfl (by kernel_rfl) (by kernel_rfl) (by kernel_rfl) (by rfl) ?_ hS rfl ?_
     rotate_left
     ·intro w' hw
      go_simp
      try with_reducible rfl
     simp only [nz]
     refine hs_t 28 68 (?_) rfl (by kernel_rfl) (by kernel_rfl) (by kernel_rfl) (by rfl) ?_ hS rfl ?_
     rotate_left
     ·intro w' hw
      go_simp
      try with_reducible rfl
     simp only [nz]
     refine hs_t 29 69 (?_) rfl (by kernel_rfl) (by kernel_rfl) (by kernel_rfl) (by rfl) ?_ hS rfl ?_
     rotate_left
     ·intro w' hw
      have hc := (hw.cell (p := ⟨b, off + j * 17, none⟩) hb5).trans p5
      go_simp
      try with_reducible rfl
     simp only [nz]
     refine hs_t 30 70 (?_) rfl (by kernel_rfl) (by kernel_rfl) (by kernel_rfl) (by rfl) ?_ hS rfl ?_
     rotate_left
     ·intro w' hw
      go_simp
      try with_reducible rfl
     simp only [nz]
     refine hs_t 31 71 (?_) rfl (by kernel_rfl) (by kernel_rfl) (by kernel_rfl) (by rfl) ?_ hS rfl ?_
     rotate_left
     ·intro w' hw
      go_simp
      try with_reducible rfl
     simp only [nz]
     refine hs_t 32 72 (?_) rfl (by kernel_rfl) (by kernel_rfl) (by kernel_rfl) (by rfl) ?_ hS rfl ?_
     rotate_left
     ·intro w' hw
      go_simp
      try with_reducible rfl
     simp only [nz]
     refine hs_t 33 73 (?_) rfl (by kernel_rfl) (by kernel_rfl) (by kernel_rfl) (by rfl) ?_ hS rfl ?_
     rotate_left
     ·intro w' hw
      go_simp
      try with_reducible rfl
     simp only [nz]
     refine hs_t 34 74 (.agg #[.string seed, .int .i64 N]) rfl (by kernel_rfl) (by kernel_rfl) (by kernel_rfl) (by rfl) (fun w' hw => exec_load rfl rfl (run_loadVar_mid (P := Tryz.prog) w' X 0 28 [.string seed, .int .i64 N] _ (range_below hR5 hw hX5) Tryz.underlying28 rfl hik)) hS rfl ?_
     simp only [nz]
     refine hs_t 35 75 (?_) rfl (by kernel_rfl) (by kernel_rfl) (by kernel_rfl) (by rfl) ?_ hS rfl ?_
     rotate_left
     ·intro w' hw
      go_simp
      try with_reducible rfl
     simp only [nz]
     refine hs_t 36 76 (?_) rfl (by kernel_rfl) (by kernel_rfl) (by kernel_rfl) (by rfl) ?_ hS rfl ?_
     rotate_left
     ·intro w' hw
      go_simp
      try with_reducible rfl
     simp only [nz]
     refine hs_t 37 77 (?_) rfl (by kernel_rfl) (by kernel_rfl) (by kernel_rfl) (by rfl) ?_ hS rfl ?_
     rotate_left
     ·intro w' hw
      go_simp
      try with_reducible rfl
     simp only [nz]
     refine hs_t 38 78 (?_) rfl (by kernel_rfl) (by kernel_rfl) (by kernel_rfl) (by rfl) ?_ hS rfl ?_
     rotate_left
     ·intro w' hw
      go_simp
      try with_reducible rfl
     simp only [nz]
     refine hs_t 39 79 (?_) rfl (by kernel_rfl) (by kernel_rfl) (by kernel_rfl) (by rfl) ?_ hS rfl ?_
     rotate_left
     ·intro w' hw
      have hc := (hw.cell (p := ⟨b, off + k * 17, none⟩) hb5).trans c5
      go_simp
      try with_reducible rfl
     simp only [nz]
     refine hs_t 40 80 (?_) rfl (by kernel_rfl) (by kernel_rfl) (by kernel_rfl) (by rfl) ?_ hS rfl ?_
     rotate_left
     ·intro w' hw
      go_simp
      try with_reducible rfl
     simp only [nz]
     refine hs_t 41 81 (?_) rfl (by kernel_rfl) (by kernel_rfl) (by kernel_rfl) (by rfl) ?_ hS rfl ?_
     rotate_left
     ·intro w' hw
      go_simp
      try with_reducible rfl
     simp only [nz]
     refine hs_t 42 82 (?_) rfl (by kernel_rfl) (by kernel_rfl) (by kernel_rfl) (by rfl) ?_ hS rfl ?_
     rotate_left
     ·intro w' hw
      go_simp
      try with_reducible rfl
     simp only [nz]
     refine hs_t 43 83 (?_) rfl (by kernel_rfl) (by kernel_rfl) (by kernel_rfl) (by rfl) ?_ hS rfl ?_
     rotate_left
     ·intro w' hw
      go_simp
      try with_reducible rfl
     simp only [nz]
     refine hs_t 44 84 (?_) rfl (by kernel_rfl) (by kernel_rfl) (by kernel_rfl) (by rfl) ?_ hS rfl ?_
     rotate_left
     ·intro w' hw
      go_simp
      try with_reducible rfl
     simp only [nz]
     refine hs_t 45 85 (.agg (v8 T).toArray) rfl (by kernel_rfl) (by kernel_rfl) (by kernel_rfl) (by rfl) (fun w' hw => exec_load rfl rfl (run_loadVar_mid (P := Tryz.prog) w' b (off + k * 17 + 1) 51 (v8 T) _ (range_below ht5 hw hb5) Tryz.underlying51 rfl hl16)) hS rfl ?_
     simp only [nz]
     refine hs_call (i := 46) (d := some 86) rfl (by kernel_rfl) (by rfl) (by go_simp; first | done | exact ⟨rfl, rfl⟩ | with_reducible rfl) rfl ?_
     refine (cch w5).mono ?_
     rintro e' w6 ⟨rfl, hw6⟩
     have hS : (Below w5.heap.size w5) w6 := hw6
     refine ⟨_, rfl, hS, ?_⟩
     simp only [nz]
     have hB6 : Below w1.heap.size w1 w6 := hB5.trans (hw6.mono hB5.size)
     clear hw6 cch hl16 ht5 c5 hR5
     cases B
     ·refine hs_t 47 87 (?_) rfl (by kernel_rfl) (by kernel_rfl) (by kernel_rfl) (by rfl) ?_ hS rfl ?_
      rotate_left
      ·intro w' hw
       go_simp
       try with_reducible rfl
      simp only [nz]
      refine hs_t 48 88 (?_) rfl (by kernel_rfl) (by kernel_rfl) (by kernel_rfl) (by rfl) ?_ hS rfl ?_
      rotate_left
      ·intro w' hw
       go_simp
       try with_reducible rfl
      simp only [nz]
      refine hs_done (by kernel_rfl) ?_
      go_wp2
      go_ret
      exact ⟨by rw [HBAD.out (by simp)]; rfl, hB1.trans (hB6.mono hB1.size)⟩
     ·refine hs_t 47 87 (?_) rfl (by kernel_rfl) (by kernel_rfl) (by kernel_rfl) (by rfl) ?_ hS rfl ?_
      rotate_left
      ·intro w' hw
       go_simp
       try with_reducible rfl
      simp only [nz]
      refine hs_t 48 88 (?_) rfl (by kernel_rfl) (by kernel_rfl) (by kernel_rfl) (by rfl) ?_ hS rfl ?_
      rotate_left
      ·intro w' hw
       go_simp
       try with_reducible rfl
      simp only [nz]
      refine hs_done (by kernel_rfl) ?_
      go_wp2
      go_roundw
      case rel => exact ⟨k + 1, by omega, by go_num, hide (HGOOD.out q4 q2 rfl), hB6⟩
      case measure => simp [intOf]; omega
  ·obtain rfl : k = rs.length := by omega
   have hV0 : V = 0 := by
    have := HM.out
    rw [List.take_length] at this
    rw [← hV.out, if_neg (by omega)]
   subst hV0
   go_wp2
   go_ret
   exact ⟨rfl, hB1.trans (hB.mono hB1.size)⟩
open Go.RowKit Go.Shelf
open Sha Tal
theorem okS_same (N : Nat) (hN : 1 ≤ N) (seed body : ByteArray) : okS (keysOf seed N) body = fun s => checkOf (refSignOf seed (N : Int) s.n body) s.t := by
 funext s
 unfold okS
 rw [sign_same seed N hN]
end Go.Proofs.YtnfijfnnpbenfaaGreatDoor.Qs
