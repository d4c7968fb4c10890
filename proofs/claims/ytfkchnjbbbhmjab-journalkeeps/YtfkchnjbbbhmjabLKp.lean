/- For every list of records, every list of syncs, every plan and every number of kept bytes, raddlelaw16.JournalKeeps returns true: behind any failure a journal opens with a beginning of its records, all that were synced among them; opened again it has the same. Conditions: none beyond the row's own. -/
import Derived.Test.YtfkchnjbbbhmjabXB11
import Derived.Test.YtfkchnjbbbhmjabXB12
import Derived.WalkKit
import Derived.ProofKit
import Derived.OpenShut
import Derived.ShutString
import Derived.ChangeOld
namespace Go.Proofs.Ytfkchnjbbbhmjab.Ty
open Go.RowKit
open Tal
/-- an area with a turn and records -/
def one (zss : List (List Int)) (i : Nat) : List Int := catF (turnF 1 :: recsF (zss.take i))
theorem recsF_take (zss : List (List Int)) (n : Nat) : (recsF zss).take n = recsF (zss.take n) := by unfold recsF; rw [List.map_take]
theorem one_take (zss : List (List Int)) {i j : Nat} (h : j ≤ i) : (turnF 1 :: recsF (zss.take i)).take (j + 1) = turnF 1 :: recsF (zss.take j) := by
  rw [List.take_succ_cons, recsF_take, List.take_take, Nat.min_eq_left h]
structure Alive (M : Mt) (keep : Int) (zss : List (List Int)) (i sure sx : Nat) : Prop where
  st : As M 1048576 0 keep false (one zss i) sx [] 0
  lo : (one zss sure).length ≤ sx
  hi : sx ≤ (one zss i).length
  si : sure ≤ i
  il : i ≤ zss.length
structure Dead (M : Mt) (zss : List (List Int)) (i n sure : Nat) : Prop where
  on : M.on = false
  pl : M.pl = false
  room : M.room = 1048576
  fa : M.fa = 1
  il : i ≤ zss.length
  si : sure ≤ i
  hi : n ≤ (one zss i).length
  lo : (one zss sure).length ≤ n
  x : M.get false = (one zss i).take n
  y : M.get true = []
theorem lost_dead {M : Mt} {keep : Int} {zss : List (List Int)} {i sure sx : Nat} (h : Lost M 1048576 0 keep false (one zss i) sx [] 0) (lo : (one zss sure).length ≤ sx) (hi : sx ≤ (one zss i).length) (si : sure ≤ i) (il : i ≤ zss.length) : Dead M zss i (keptN keep (one zss i).length sx) sure :=
  ⟨h.on, h.pl, h.room, by rw [h.fa]; unfold wrap64; omega, il, si, keptN_le keep hi, Nat.le_trans lo (keptN_ge keep _ _), h.x, by have := h.y; simpa using this⟩
theorem alive_append {M : Mt} {keep : Int} {zss : List (List Int)} {k sure sx : Nat} (h : Alive M keep zss k sure sx) (hz : Bz zss) (hk : k < zss.length) (q p : Nat) :
    (∃ M', M.jappend ⟨q, p, 0, 1, 0⟩ zss[k] = (0, M') ∧ Alive M' keep zss (k + 1) sure sx) ∨ (∃ M' n, M.jappend ⟨q, p, 0, 1, 0⟩ zss[k] = (150, M') ∧ Dead M' zss k n sure) := by
  have hl := first_len hz k
  have hc := app_std h.st zss[k] (hz.len (List.getElem_mem hk)) (by simp; omega) q p 1
  rw [← recsF_snoc zss k hk] at hc
  have hmono : (one zss k).length ≤ (one zss (k + 1)).length := by
    unfold one
    rw [recsF_snoc zss k hk, catF_append, List.length_append]
    omega
  rcases hc with ⟨M', he, hA, -⟩ | ⟨-, M', he, hL⟩
  · exact .inl ⟨M', he, hA, h.lo, Nat.le_trans h.hi hmono, by have := h.si; omega, by omega⟩
  · exact .inr ⟨M', _, he, lost_dead hL h.lo h.hi h.si h.il⟩
theorem alive_sync {M : Mt} {keep : Int} {zss : List (List Int)} {k sure sx : Nat} (h : Alive M keep zss k sure sx) (q p : Nat) :
    (∃ M' sx', M.jsync ⟨q, p, 0, 1, 0⟩ = (0, M') ∧ Alive M' keep zss k k sx') ∨ (∃ M' n, M.jsync ⟨q, p, 0, 1, 0⟩ = (150, M') ∧ Dead M' zss k n sure) := by
  have hj : M.jon 0 = true := by unfold Mt.jon; rw [h.st.on, h.st.fa]; simp
  have hc := h.st.sync
  have e : M.jsync ⟨q, p, 0, 1, 0⟩ = M.sync (ka false) := by unfold Mt.jsync; simp only; rw [hj, if_pos rfl]; rfl
  rw [e]
  rcases hc with ⟨M', he, hA, -⟩ | ⟨-, M', he, hL⟩
  · exact .inl ⟨M', _, he, hA, Nat.le_refl _, Nat.le_refl _, Nat.le_refl _, h.il⟩
  · exact .inr ⟨M', _, he, lost_dead hL h.lo h.hi h.si h.il⟩
theorem dead_append {M : Mt} {zss : List (List Int)} {i n sure : Nat} (h : Dead M zss i n sure) (z : List Int) (j : Jv) : M.jappend j z = (150, M) := by
  unfold Mt.jappend Mt.jon
  rw [h.on]
  rfl
theorem alive_fail {M : Mt} {keep : Int} {zss : List (List Int)} {i sure sx : Nat} (h : Alive M keep zss i sure sx) : ∃ n, Dead (M.fail keep).2 zss i n sure := by
  have hL := h.st.lose keep
  refine ⟨keptN keep (one zss i).length sx, ?_⟩
  unfold Mt.fail
  rw [if_pos h.st.on]
  exact lost_dead hL h.lo h.hi h.si h.il
theorem dead_fail {M : Mt} {zss : List (List Int)} {i n sure : Nat} (h : Dead M zss i n sure) (keep : Int) : Dead (M.fail keep).2 zss i n sure := by
  unfold Mt.fail
  rw [if_neg (by rw [h.on]; simp)]
  exact h
theorem one_gd {zss : List (List Int)} (hz : Bz zss) (i : Nat) : ∀ x ∈ turnF 1 :: recsF (zss.take i), Gd x.1 x.2 := fun y hy => by
  rcases List.mem_cons.1 hy with rfl | q
  · exact gd_turn (t := 1) (by omega) (by omega)
  · exact (hz.take i).gd y q
/-- an area that was cut, and what of it is sure -/
theorem one_cut {zss : List (List Int)} (hz : Bz zss) {i n sure : Nat} (hi : n ≤ (one zss i).length) (lo : (one zss sure).length ≤ n) (si : sure ≤ i) (il : i ≤ zss.length) : ∃ r, sure ≤ r ∧ r ≤ zss.length ∧ turnW (framesW ((one zss i).take n)) = 1 ∧ recsW (framesW ((one zss i).take n)) = zss.take r := by
  obtain ⟨m, m1, m2, m3⟩ := frames_take (one_gd hz i) n hi
  have hm := m3 (sure + 1) (by simp [recsF]; omega) (by rw [one_take zss si]; exact lo)
  obtain ⟨r, rfl⟩ : ∃ r, m = r + 1 := ⟨m - 1, by omega⟩
  have hri : r ≤ i := by simp [recsF] at m1; omega
  rw [one_take zss hri] at m2
  obtain ⟨b1, b2⟩ := begin_turn (t := 1) (by omega) (by omega) (zss.take r)
  exact ⟨r, by omega, by omega, by unfold one; rw [m2]; exact b1, by unfold one; rw [m2]; exact b2⟩
theorem dead_std {M : Mt} {zss : List (List Int)} {i n sure : Nat} (h : Dead M zss i n sure) (hz : Bz zss) : ∃ r, sure ≤ r ∧ r ≤ zss.length ∧ ∃ x sx y sy, Std { M with on := true } 1 false 1 (zss.take r) x sx y sy := by
  obtain ⟨r, h1, h2, h3, h4⟩ := one_cut hz h.hi h.lo h.si h.il
  have hl := first_len hz i
  refine ⟨r, h1, h2, (one zss i).take n, M.sa, [], M.sb, ⟨⟨rfl, h.room, h.fa, fun q => (by have q' : M.pl = true := q; rw [h.pl] at q'; cases q'), h.x, rfl, h.y, rfl⟩, h.pl, h3, h4, by rw [framesW_nil]; simp [turnW], by rw [framesW_nil]; simp [turnW], ?_, by simp⟩⟩
  rw [List.length_take]
  unfold one
  omega
set_option maxRecDepth 100000 in
set_option maxHeartbeats 8000000 in
theorem begins_any (a1 a2 : Option Addr) (c1 c2 : Nat) (rs ys : List Rc) (w : World) (h1 : Recs w a1 rs) (h2 : Recs w a2 ys) (hc : ys.length ≤ c2) (r : Nat) (hr : r ≤ ys.length) (hE : rs.map Rc.zs = (ys.map Rc.zs).take r) :
    Calls Try.prog 17 #[.slice a1 rs.length c1, .slice a2 ys.length c2] w fun e w' => e = .returned (.bool true) ∧ Below w.heap.size w w' := by
  have hl1 := h1.le
  have hl2 := h2.le
  have hrl : rs.length = r := by
    have := congrArg List.length hE
    rw [List.length_map, List.length_take, List.length_map] at this
    omega
  have hle : (rs.length : Int) ≤ (ys.length : Int) := by omega
  have hlc : (rs.length : Int) ≤ (c2 : Int) := by omega
  have hyt : (ys.take r).length = rs.length := by rw [List.length_take]; omega
  have hE2 : rs.map Rc.zs = (ys.take r).map Rc.zs := by rw [List.map_take]; exact hE
  have hR2 : Recs w a2 (ys.take r) := by
    refine ⟨by omega, ?_, fun x hx => h2.rows x (List.mem_of_mem_take hx)⟩
    rcases h2.at0 with q | ⟨b, off, rfl, q2, q3⟩
    · left; rw [q]; simp
    · right
      refine ⟨b, off, rfl, q2, fun j v hv => q3 j v ?_⟩
      rw [List.map_take, List.getElem?_take] at hv
      split at hv
      · exact hv
      · cases hv
  have cS := xsame_any a1 a2 c1 c2 rs (ys.take r) w h1 hR2 hE2
  rw [hyt] at cS
  clear h1 h2 hR2 hE hE2 hyt hrl
  go_enter Try.func17, Try.ntmps17
  go_wp2_with fail
  refine cS.mono ?_
  rintro e w1 ⟨rfl, hB1⟩
  clear cS
  go_wp2
  go_ret
  exact ⟨rfl, hB1⟩
end Go.Proofs.Ytfkchnjbbbhmjab.Ty
namespace Go.Proofs.Ytfkchnjbbbhmjab
open Go.ChangeShapes Go.WideShapes Go.ChangeAt Go.RowKit
def boolC (b : Bool) : List Value := [.bool b]
set_option maxRecDepth 100000 in
theorem open_bools {H : Type} {enc : TypeId × Value → H} {W : World} {base b : Nat} {sp : Nat → Bool} {held : Bool} {fuel : Nat} {v : Value} {x : DataW H × List MemPlace} (hv : Value.okWide Try.prog W .any base 23 v)
    (h : DataW.trod enc Try.prog W b sp held fuel 23 v.cells.toList = some x) : ∃ (a : Option Addr) (cap : Nat) (ys : List Bool), v = .slice a ys.length cap ∧ ys.length ≤ cap ∧ cap ≤ maxLen ∧ RowOf boolC W a ys := by
  obtain ⟨a0, len, cap, rfl⟩ := okWide_slice Try.underlying23 hv
  obtain ⟨a, cap', ys, h1, h2, h3, -, h5⟩ := rows_of boolC (fun _ => True) 1 (by omega) 23 4 Try.underlying23 (by kernel_rfl) (fun _ _ => rfl) (fun m l z hz => by
    obtain ⟨c, hc, -⟩ := DataW.trod_bool Try.underlying4 hz
    exact ⟨c, hc, trivial⟩) h
  simp [Value.cells] at h1
  obtain ⟨rfl, rfl, rfl⟩ := h1
  exact ⟨a0, cap, ys, rfl, h2, h3, h5⟩
end Go.Proofs.Ytfkchnjbbbhmjab
namespace Go.Proofs.Ytfkchnjbbbhmjab.Ty
open Go.RowKit
open Tal
theorem two00_of (z : Int) : ∃ n : Nat, n < 200 ∧ wrap64 ((IntKind.u64.wrap z).tmod 200) = (n : Int) := by
  rw [IntKind.wrap_u64]
  have h0 : 0 ≤ z % 18446744073709551616 := Int.emod_nonneg _ (by omega)
  rw [Int.tmod_eq_emod_of_nonneg h0]
  refine ⟨((z % 18446744073709551616) % 200).toNat, by omega, ?_⟩
  unfold wrap64
  omega
/-- the tape with a plan -/
def armed (n : Nat) (keep : Int) : Mt := { V1 with pl := true, af := (n : Int), ke := keep }
theorem arm1 (n : Nat) (keep : Int) : V1.arm (n : Int) keep = (0, armed n keep) := by
  unfold Mt.arm
  rw [if_neg (by omega)]
  have : V1.on = true := vas1.on
  rw [if_pos this]
  rfl
theorem armed_as (n : Nat) (keep : Int) (zss : List (List Int)) : Alive (armed n keep) keep zss 0 0 (one zss 0).length := by
  have e : one zss 0 = catF (turnF 1 :: recsF []) := by unfold one; rw [List.take_zero]
  refine ⟨?_, Nat.le_refl _, Nat.le_refl _, Nat.le_refl _, Nat.zero_le _⟩
  rw [e]
  exact ⟨vas1.on, vas1.room, vas1.fa, fun _ => rfl, vas1.x, vas1.sx, vas1.y, vas1.sy⟩
/-- a journal's tape while records are appended -/
def KState (M : Mt) (keep : Int) (zss : List (List Int)) (k sure : Nat) : Prop := (∃ sx, Alive M keep zss k sure sx) ∨ (∃ i n, Dead M zss i n sure)
theorem KState.fail {M : Mt} {keep : Int} {zss : List (List Int)} {k sure : Nat} (h : KState M keep zss k sure) : ∃ i n, Dead (M.fail keep).2 zss i n sure := by
  rcases h with ⟨sx, h⟩ | ⟨i, n, h⟩
  · obtain ⟨n, hn⟩ := alive_fail h
    exact ⟨k, n, hn⟩
  · exact ⟨i, n, dead_fail h keep⟩
set_option maxRecDepth 100000 in
set_option maxHeartbeats 16000000 in
theorem keeps_walk (al : Option Addr) (cl : Nat) (ys : List Rc) (sl : Option Addr) (sc : Nat) (bl : List Bool) (nn keep : Int) (hcc : ys.length ≤ cl) (w : World) (hok : ∀ y ∈ ys, y.ok w) (hrow : RowOf Rc.cells w al ys) (hbr : RowOf boolC w sl bl) :
    Calls Try.prog 3 #[.slice al ys.length cl, .slice sl bl.length sc, .int .i64 nn, .int .i64 keep] w fun e w' => e = .returned (.bool true) ∧ Below w.heap.size w w' := by
  by_cases hbig : 100 < ys.length
  · have hbI : (100 : Int) < (ys.length : Int) := by omega
    have cV := lives16_any w
    go_enter Try.func3, Try.ntmps3
    go_wp2_with fail
    refine cV.mono ?_
    rintro e w1 ⟨rfl, hB1⟩
    clear cV
    go_wp2
    go_ret
    exact ⟨rfl, hB1⟩
  have hnI : ¬ (100 : Int) < (ys.length : Int) := by omega
  have hR := recs_of (by omega) hrow hok
  have cL := Light16_any al cl ys w hR
  go_enter Try.func3, Try.ntmps3
  go_wp2_with fail
  refine cL.mono ?_
  rintro e w1 (⟨rfl, hB1⟩ | ⟨rfl, hB1, hwt⟩)
  · clear cL
    have cV := lives16_any w1
    go_wp2_with fail
    refine cV.mono ?_
    rintro e w2 ⟨rfl, hB2⟩
    clear cV
    go_wp2
    go_ret
    exact ⟨rfl, hB1.trans (hB2.mono hB1.size)⟩
  clear cL
  have hz := bz_of (fun y hy => (hok y hy).row) hwt
  have cN := live_new 1048576 w1 (by omega) (by omega)
  go_wp2_with fail
  refine cN.mono ?_
  rintro e w2 ⟨rfl, hB2, hT2⟩
  clear cN
  obtain ⟨p, hp⟩ : ∃ p, Hid (w1.heap.size = p) := ⟨_, hide rfl⟩
  rw [hp.out] at hT2 ⊢
  have hwp : w.heap.size ≤ p := by rw [← hp.out]; exact hB1.size
  have hB02 : Below w.heap.size w w2 := hB1.trans (hB2.mono hB1.size)
  have lt2 : ∀ b, (fun b => b < p) b → b < w2.heap.size := fun b hb => Nat.lt_of_lt_of_le hb (by rw [← hp.out]; exact hB2.size)
  have cO := open_on p V0 (fun b => b < p) w2 hT2 lt2 rfl (by show (1048576 : Int) ≤ _; omega)
  simp only [vopen0, vrec0] at cO
  go_wp2_with fail
  refine cO.mono ?_
  rintro e w3 ⟨q, A2, hOp⟩
  clear cO hT2 lt2
  obtain ⟨h2up, h2q, h2lt, -, h2off, -, hT3, hsaid⟩ := hOp
  simp only at hT3 hsaid
  rcases hsaid with ⟨h, -⟩ | ⟨-, hJ3, v, rs, rfl, hW, hzs, -⟩
  · exact absurd rfl h
  obtain rfl : rs = [] := by simpa using hzs
  obtain ⟨ra, rc, rfl, -, -, -⟩ := hW.recs (by simp)
  clear hW hzs
  have hup : ∀ b, b < w.heap.size → A2 b := fun b hb => h2up b (by omega)
  have hB3 : Below w.heap.size w w3 := hB02.trans (h2off.below hB02.size (fun b hb q => q (by show b < p; omega)))
  clear h2off hB02 hB1 hB2 h2up
  obtain ⟨n2, hn2, HT⟩ := two00_of nn
  have RB : IntKind.i64.wrap ((IntKind.u64.wrap nn).tmod 200) = (n2 : Int) := by rw [IntKind.wrap_i64]; unfold wrap64 at HT; exact HT
  have HR := hide hR
  have HBR := hide hbr
  clear hR hok hrow hbr
  obtain ⟨zss, hzss⟩ : ∃ zss, Hid (ys.map Rc.zs = zss) := ⟨_, hide rfl⟩
  rw [hzss.out] at hz
  have hzl : Hid (zss.length = ys.length) := hide (by rw [← hzss.out, List.length_map])
  have cA := live_arm hT3 h2lt (n2 : Int) keep (by omega)
  rw [arm1] at cA
  go_wp2_with fail
  refine cA.mono ?_
  rintro e w4 ⟨rfl, hT4, hO4⟩
  clear cA
  have hJ4 := hJ3.at (hO4.2 q (h2lt q h2q) (fun hh => hh h2q))
  have hB4 : Below w.heap.size w w4 := hB3.trans (hO4.below hB3.size (fun b hb q => q (hup b hb)))
  have lt4 : ∀ b, A2 b → b < w4.heap.size := fun b hb => Nat.lt_of_lt_of_le (h2lt b hb) hO4.size
  have hK4 : Hid (KState (armed n2 keep) keep zss 0 0) := hide (.inl ⟨_, armed_as n2 keep zss⟩)
  clear hO4 hT3 hJ3 hB3 h2lt
  (try simp only at hT4)
  go_wp2_with fail
  go_loopw [13, 51] (fun sv iv wr => ∃ (k sure : Nat) (M : Mt), k ≤ ys.length ∧ sure ≤ k ∧ iv = .int .i64 (k : Int) ∧ sv = .int .i64 (sure : Int) ∧ JAt wr ⟨q, p, 0, 1, 0⟩ ∧ Live A2 wr p M ∧ Hid (KState M keep zss k sure) ∧ (∀ b, A2 b → b < wr.heap.size) ∧ Below w.heap.size w wr) (fun _ iv _ => ys.length - (intOf iv).toNat)
  case atStart => exact ⟨0, 0, armed n2 keep, by omega, by omega, rfl, rfl, hJ4, hT4, hK4, lt4, hB4⟩
  case round =>
    clear hJ4 hT4 lt4 hB4 hK4
    obtain ⟨k, sure, M, hk, hsk, rfl, rfl, hJ, hT, hK, hlt2, hB⟩ := hrel
    by_cases hlt : k < ys.length
    rotate_left
    · obtain rfl : k = ys.length := by omega
      have hE : Hid (∃ i n, Dead (M.fail keep).2 zss i n sure) := hide hK.out.fail
      clear hK hJ hlt
      have cF := live_fail hT hlt2 keep
      obtain ⟨N, hN⟩ : ∃ N, Hid ((M.fail keep).2 = N) := ⟨_, hide rfl⟩
      obtain ⟨fe, hfe⟩ : ∃ fe, Hid ((M.fail keep).1 = fe) := ⟨_, hide rfl⟩
      rw [hN.out, hfe.out] at cF
      obtain ⟨di, dn, hD⟩ := hE.out
      rw [hN.out] at hD
      obtain ⟨r, hr1, hr2, x, sx, y, sy, hS⟩ := dead_std hD hz
      clear hD hE hN hfe
      go_wp2_with fail
      refine cF.mono ?_
      rintro e w5 ⟨rfl, hT5, hO5⟩
      clear cF
      have hB5 : Below w.heap.size w w5 := hB.trans (hO5.below hB.size (fun b hb q => q (hup b hb)))
      have lt5 : ∀ b, A2 b → b < w5.heap.size := fun b hb => Nat.lt_of_lt_of_le (hlt2 b hb) hO5.size
      clear hO5 hT hB hlt2
      have cP := live_power hT5 lt5
      go_wp2_with fail
      refine cP.mono ?_
      rintro e w6 ⟨rfl, hT6, hO6⟩
      clear cP
      have hB6 : Below w.heap.size w w6 := hB5.trans (hO6.below hB5.size (fun b hb q => q (hup b hb)))
      have lt6 : ∀ b, A2 b → b < w6.heap.size := fun b hb => Nat.lt_of_lt_of_le (lt5 b hb) hO6.size
      clear hO6 hT5 hB5 lt5
      have hzr := hz.take r
      obtain ⟨hf1, M1, hop1, hS1⟩ := open_std hS hzr (by omega) (by omega)
      obtain ⟨hf2, M2, hop2, hS2⟩ := open_std hS1 hzr (by omega) (by omega)
      have cO := open_on p _ A2 w6 hT6 lt6 hS.st.on (by rw [hS.st.room]; omega)
      simp only [hop1, hf1] at cO
      have on1 := hS1.st.on
      have rm1 : M1.room ≤ 100000000 := by rw [hS1.st.room]; omega
      clear hop1 hf1 hS hS1 hS2 hT6
      go_wp2_with fail
      refine cO.mono ?_
      rintro e w7 ⟨q7, A7, hOp⟩
      clear cO
      obtain ⟨h7up, -, h7lt, -, h7off, -, hT7, hsaid⟩ := hOp
      simp only at hT7 hsaid
      rcases hsaid with ⟨h, -⟩ | ⟨-, -, v7, rs7, rfl, hW7, hzs7, hrl7, hx7, hv7⟩
      · exact absurd rfl h
      have hB7 : Below w.heap.size w w7 := hB6.trans (h7off.below hB6.size (fun b hb q => q (hup b hb)))
      clear h7off
      have cO := open_on p M1 A7 w7 hT7 h7lt on1 rm1
      simp only [hop2, hf2] at cO
      clear hop2 hf2 hT7
      obtain ⟨ra7, rc7, rfl, -, -, -⟩ := hW7.recs hrl7
      go_wp2_with fail
      refine cO.mono ?_
      rintro e w8 ⟨q8, A8, hOp⟩
      clear cO
      obtain ⟨h8up, -, -, -, h8off, -, -, hsaid⟩ := hOp
      simp only at hsaid
      rcases hsaid with ⟨h, -⟩ | ⟨-, -, v8', rs8, rfl, hW8, hzs8, hrl8, -, -⟩
      · exact absurd rfl h
      have hB8 : Below w.heap.size w w8 := hB7.trans (h8off.below hB7.size (fun b hb q => q (h7up b (hup b hb))))
      have hW7' := hW7.off' h8off (fun g e1 e2 => e2 (hv7 g e1)) (fun x hx ad e1 e2 => e2 (hx7 x hx ad e1))
      obtain ⟨ra8, rc8, rfl, hR8, -, -⟩ := hW8.recs hrl8
      obtain ⟨a7, c7, e7, hR7, -, -⟩ := hW7'.recs hrl7
      simp only [Value.slice.injEq, true_and] at e7
      obtain ⟨rfl, rfl⟩ := e7
      have cS := xsame_any ra7 ra8 rc7 rc8 rs7 rs8 w8 hR7 hR8 (by rw [hzs7, hzs8])
      have hge : (sure : Int) ≤ (rs7.length : Int) := by
        have := congrArg List.length hzs7
        rw [List.length_map, List.length_take] at this
        omega
      clear hW7 hW8 hW7' h8off hR8
      go_wp2_with fail
      refine cS.mono ?_
      rintro e w9 ⟨rfl, hB9⟩
      clear cS
      have hB89 := hB8.trans (hB9.mono hB8.size)
      have cG := begins_any ra7 _ rc7 cl rs7 ys w9 (hR7.below' hB9) (HR.out.below' hB89) hcc r (by rw [← hzl.out]; exact hr2) (by rw [hzs7, hzss.out])
      clear hR7
      go_wp2_with fail
      refine cG.mono ?_
      rintro e w10 ⟨rfl, hB10⟩
      clear cG
      have cV := lives16_any w10
      go_wp2_with fail
      refine cV.mono ?_
      rintro e w11 ⟨rfl, hB11⟩
      clear cV
      go_wp2
      go_ret
      have hBa := hB89.trans (hB10.mono hB89.size)
      exact ⟨rfl, hBa.trans (hB11.mono hBa.size)⟩
    have hltI : (k : Int) < (ys.length : Int) := by omega
    obtain ⟨b1, o1, hA1, hb1, hc1, hr1⟩ := (HR.out.below' hB).get k hlt
    have hkz : k < zss.length := by rw [hzl.out]; exact hlt
    have hzk : zss[k] = ys[k].zs := by simp only [← hzss.out, List.getElem_map]
    have hap : Hid ((∃ M' sx, M.jappend ⟨q, p, 0, 1, 0⟩ ys[k].zs = (0, M') ∧ Alive M' keep zss (k + 1) sure sx) ∨ (∃ M', M.jappend ⟨q, p, 0, 1, 0⟩ ys[k].zs = (150, M') ∧ KState M' keep zss k sure)) := hide (by
      rw [← hzk]
      rcases hK.out with ⟨sx, h⟩ | ⟨i, n, h⟩
      · rcases alive_append h hz hkz q p with ⟨M', q1, q2⟩ | ⟨M', n, q1, q2⟩
        · exact .inl ⟨M', sx, q1, q2⟩
        · exact .inr ⟨M', q1, .inr ⟨_, _, q2⟩⟩
      · exact .inr ⟨M, dead_append h _ _, .inr ⟨_, _, h⟩⟩)
    clear hzk hK
    generalize ys[k] = y at *
    obtain ⟨ya, yc, yz⟩ := y
    simp only at hc1 hr1 hap
    have cA := jappend_any ⟨q, p, 0, 1, 0⟩ M A2 ya yc yz wr hJ hT hlt2 h2q hr1
    unfold jptr at cA
    simp only at cA
    subst hA1
    clear hr1
    rcases hap.out with ⟨M', sx, he, hA⟩ | ⟨M', he, hE0⟩
    rotate_left
    · rw [he] at cA
      have hE : Hid (∃ i n, Dead (M'.fail keep).2 zss i n sure) := hide hE0.fail
      clear hap he hE0
      go_wp2_with fail
      refine cA.mono ?_
      rintro e w4 ⟨rfl, hT4, -, hO4⟩
      clear cA
      have hB4 : Below w.heap.size w w4 := hB.trans (hO4.below hB.size (fun b hb q => q (hup b hb)))
      have hlt4 : ∀ b, A2 b → b < w4.heap.size := fun b hb => Nat.lt_of_lt_of_le (hlt2 b hb) hO4.size
      clear hO4 hT hJ hc1 hB hlt2
      obtain ⟨M, rfl⟩ : ∃ N, N = M' := ⟨_, rfl⟩
      have hT := hT4
      have hB := hB4
      have hlt2 := hlt4
      clear hT4 hB4 hlt4
      have cF := live_fail hT hlt2 keep
      obtain ⟨N, hN⟩ : ∃ N, Hid ((M.fail keep).2 = N) := ⟨_, hide rfl⟩
      obtain ⟨fe, hfe⟩ : ∃ fe, Hid ((M.fail keep).1 = fe) := ⟨_, hide rfl⟩
      rw [hN.out, hfe.out] at cF
      obtain ⟨di, dn, hD⟩ := hE.out
      rw [hN.out] at hD
      obtain ⟨r, hr1, hr2, x, sx, y, sy, hS⟩ := dead_std hD hz
      clear hD hE hN hfe
      go_wp2_with fail
      refine cF.mono ?_
      rintro e w5 ⟨rfl, hT5, hO5⟩
      clear cF
      have hB5 : Below w.heap.size w w5 := hB.trans (hO5.below hB.size (fun b hb q => q (hup b hb)))
      have lt5 : ∀ b, A2 b → b < w5.heap.size := fun b hb => Nat.lt_of_lt_of_le (hlt2 b hb) hO5.size
      clear hO5 hT hB hlt2
      have cP := live_power hT5 lt5
      go_wp2_with fail
      refine cP.mono ?_
      rintro e w6 ⟨rfl, hT6, hO6⟩
      clear cP
      have hB6 : Below w.heap.size w w6 := hB5.trans (hO6.below hB5.size (fun b hb q => q (hup b hb)))
      have lt6 : ∀ b, A2 b → b < w6.heap.size := fun b hb => Nat.lt_of_lt_of_le (lt5 b hb) hO6.size
      clear hO6 hT5 hB5 lt5
      have hzr := hz.take r
      obtain ⟨hf1, M1, hop1, hS1⟩ := open_std hS hzr (by omega) (by omega)
      obtain ⟨hf2, M2, hop2, hS2⟩ := open_std hS1 hzr (by omega) (by omega)
      have cO := open_on p _ A2 w6 hT6 lt6 hS.st.on (by rw [hS.st.room]; omega)
      simp only [hop1, hf1] at cO
      have on1 := hS1.st.on
      have rm1 : M1.room ≤ 100000000 := by rw [hS1.st.room]; omega
      clear hop1 hf1 hS hS1 hS2 hT6
      go_wp2_with fail
      refine cO.mono ?_
      rintro e w7 ⟨q7, A7, hOp⟩
      clear cO
      obtain ⟨h7up, -, h7lt, -, h7off, -, hT7, hsaid⟩ := hOp
      simp only at hT7 hsaid
      rcases hsaid with ⟨h, -⟩ | ⟨-, -, v7, rs7, rfl, hW7, hzs7, hrl7, hx7, hv7⟩
      · exact absurd rfl h
      have hB7 : Below w.heap.size w w7 := hB6.trans (h7off.below hB6.size (fun b hb q => q (hup b hb)))
      clear h7off
      have cO := open_on p M1 A7 w7 hT7 h7lt on1 rm1
      simp only [hop2, hf2] at cO
      clear hop2 hf2 hT7
      obtain ⟨ra7, rc7, rfl, -, -, -⟩ := hW7.recs hrl7
      go_wp2_with fail
      refine cO.mono ?_
      rintro e w8 ⟨q8, A8, hOp⟩
      clear cO
      obtain ⟨h8up, -, -, -, h8off, -, -, hsaid⟩ := hOp
      simp only at hsaid
      rcases hsaid with ⟨h, -⟩ | ⟨-, -, v8', rs8, rfl, hW8, hzs8, hrl8, -, -⟩
      · exact absurd rfl h
      have hB8 : Below w.heap.size w w8 := hB7.trans (h8off.below hB7.size (fun b hb q => q (h7up b (hup b hb))))
      have hW7' := hW7.off' h8off (fun g e1 e2 => e2 (hv7 g e1)) (fun x hx ad e1 e2 => e2 (hx7 x hx ad e1))
      obtain ⟨ra8, rc8, rfl, hR8, -, -⟩ := hW8.recs hrl8
      obtain ⟨a7, c7, e7, hR7, -, -⟩ := hW7'.recs hrl7
      simp only [Value.slice.injEq, true_and] at e7
      obtain ⟨rfl, rfl⟩ := e7
      have cS := xsame_any ra7 ra8 rc7 rc8 rs7 rs8 w8 hR7 hR8 (by rw [hzs7, hzs8])
      have hge : (sure : Int) ≤ (rs7.length : Int) := by
        have := congrArg List.length hzs7
        rw [List.length_map, List.length_take] at this
        omega
      clear hW7 hW8 hW7' h8off hR8
      go_wp2_with fail
      refine cS.mono ?_
      rintro e w9 ⟨rfl, hB9⟩
      clear cS
      have hB89 := hB8.trans (hB9.mono hB8.size)
      have cG := begins_any ra7 _ rc7 cl rs7 ys w9 (hR7.below' hB9) (HR.out.below' hB89) hcc r (by rw [← hzl.out]; exact hr2) (by rw [hzs7, hzss.out])
      clear hR7
      go_wp2_with fail
      refine cG.mono ?_
      rintro e w10 ⟨rfl, hB10⟩
      clear cG
      have cV := lives16_any w10
      go_wp2_with fail
      refine cV.mono ?_
      rintro e w11 ⟨rfl, hB11⟩
      clear cV
      go_wp2
      go_ret
      have hBa := hB89.trans (hB10.mono hB89.size)
      exact ⟨rfl, hBa.trans (hB11.mono hBa.size)⟩
    rw [he] at cA
    have HA := hide hA
    clear hap he hA
    go_wp2_with fail
    refine cA.mono ?_
    rintro e w4 ⟨rfl, hT4, hJ4, hO4⟩
    clear cA
    have hB4 : Below w.heap.size w w4 := hB.trans (hO4.below hB.size (fun b hb q => q (hup b hb)))
    have hlt4 : ∀ b, A2 b → b < w4.heap.size := fun b hb => Nat.lt_of_lt_of_le (hlt2 b hb) hO4.size
    clear hO4 hT hJ hc1
    (try simp only at hT4)
    by_cases hbk : k < bl.length
    rotate_left
    · have hbI : ¬ (k : Int) < (bl.length : Int) := by omega
      have HK : Hid (KState M' keep zss (k + 1) sure) := hide (.inl ⟨_, HA.out⟩)
      clear HA
      go_wp2
      go_roundw
      case rel => exact ⟨k + 1, sure, M', by omega, by omega, by go_num, rfl, hJ4, hT4, HK, hlt4, hB4⟩
      case measure => simp [intOf]; omega
    have hbI : (k : Int) < (bl.length : Int) := by omega
    obtain ⟨sb, so, hSA, -, hcs⟩ := (HBR.out.below hB4).elem (k := 1) (fun _ _ => rfl) k hbk
    subst hSA
    have hcs0 : w4.cell? ⟨sb, so + k, none⟩ = some (.bool bl[k]) := by
      have := hcs 0 (.bool bl[k]) rfl
      rwa [Nat.mul_one, Nat.add_zero] at this
    clear hcs
    generalize bl[k] = bb at *
    cases bb with
    | false =>
      have HK : Hid (KState M' keep zss (k + 1) sure) := hide (.inl ⟨_, HA.out⟩)
      clear HA
      go_wp2
      go_roundw
      case rel => exact ⟨k + 1, sure, M', by omega, by omega, by go_num, rfl, hJ4, hT4, HK, hlt4, hB4⟩
      case measure => simp [intOf]; omega
    | true =>
      have cY := jsync_any ⟨q, p, 0, 1, 0⟩ M' A2 w4 hJ4 hT4 hlt4 h2q
      unfold jptr at cY
      simp only at cY
      rcases alive_sync HA.out q p with ⟨M2, sx', he, hA2⟩ | ⟨M2, n, he, hD2⟩
      · rw [he] at cY
        have HK : Hid (KState M2 keep zss (k + 1) (k + 1)) := hide (.inl ⟨_, hA2⟩)
        clear he hA2 HA
        go_wp2_with fail
        refine cY.mono ?_
        rintro e w5 ⟨rfl, hT5, hJ5, hO5⟩
        clear cY
        have hB5 : Below w.heap.size w w5 := hB4.trans (hO5.below hB4.size (fun b hb q => q (hup b hb)))
        have hlt5 : ∀ b, A2 b → b < w5.heap.size := fun b hb => Nat.lt_of_lt_of_le (hlt4 b hb) hO5.size
        clear hO5 hT4 hJ4 hcs0
        go_wp2
        go_roundw
        case rel => exact ⟨k + 1, k + 1, M2, by omega, by omega, by go_num, by go_num, hJ5, hT5, HK, hlt5, hB5⟩
        case measure => simp [intOf]; omega
      · rw [he] at cY
        have HK : Hid (KState M2 keep zss (k + 1) sure) := hide (.inr ⟨_, _, hD2⟩)
        clear he hD2 HA
        go_wp2_with fail
        refine cY.mono ?_
        rintro e w5 ⟨rfl, hT5, hJ5, hO5⟩
        clear cY
        have hB5 : Below w.heap.size w w5 := hB4.trans (hO5.below hB4.size (fun b hb q => q (hup b hb)))
        have hlt5 : ∀ b, A2 b → b < w5.heap.size := fun b hb => Nat.lt_of_lt_of_le (hlt4 b hb) hO5.size
        clear hO5 hT4 hJ4 hcs0
        go_wp2
        go_roundw
        case rel => exact ⟨k + 1, sure, M2, by omega, by omega, by go_num, rfl, hJ5, hT5, HK, hlt5, hB5⟩
        case measure => simp [intOf]; omega
end Go.Proofs.Ytfkchnjbbbhmjab.Ty
namespace Go.Proofs.Ytfkchnjbbbhmjab.journalKeeps
open Go.ChangeShapes Go.WideShapes Go.ChangeAt Go.RowKit
open Go.ChangeMaps (open_string shut_string)
set_option linter.unusedVariables false
set_option maxRecDepth 100000 in
theorem lifted (os : Os) (started : os.Started) (H : Type) (enc : TypeId × Value → H) :
    ReturnsInHanded {} Try.checked os 3 .any (Rows.journalKeepsSpec.pre6 enc Try.prog Try.f3 Rows.journalKeepsRow.domain false) (Rows.journalKeepsSpec.post enc Try.prog Try.f3 false true false false) := by
  refine returnsInHanded_of_change (C := Try.checked) own started (by kernel_rfl) Try.func3
    (ChangeSpec.witness6 (enc := enc) (C := Try.checked) false ⟨#[], #[.slice none 0 0, .slice none 0 0, .int .i64 0, .int .i64 0], []⟩ 8 (by kernel_rfl) (by kernel_rfl) (by kernel_rfl) (by kernel_rfl)) ?_
  intro W base args ds gs before hval0 hW hcnd _
  have hval : ∀ (j : Nat) t v, Try.f3.params[j]? = some t → args[j]? = some v → Value.okWide Try.prog W .any base t v := hval0
  have hW' := hW
  obtain ⟨p, q, hA0, hV, rfl, hfz, hnd⟩ := hW
  have hA : DataW.TrodAll enc Try.prog W 0 (fun _ => true) true Try.f3.params.toList args.toList ds p := hA0
  rw [Try.params3] at hA hval
  obtain ⟨v0, vs0, d0, ds0, p0, q0, hargs, rfl, rfl, h0, r0⟩ := trodAll_cons hA
  obtain ⟨v1, vs1, d1, ds1, p1, q1, rfl, rfl, rfl, h1, r1⟩ := trodAll_cons r0
  obtain ⟨v2, vs2, d2, ds2, p2, q2, rfl, rfl, rfl, h2, r2⟩ := trodAll_cons r1
  obtain ⟨v3, vs3, d3, ds3, p3, q3, rfl, rfl, rfl, h3, r3⟩ := trodAll_cons r2
  obtain ⟨rfl, rfl, rfl⟩ := trodAll_nil r3
  obtain rfl : args = #[v0, v1, v2, v3] := by cases args; simp_all
  obtain ⟨rfl, rfl⟩ := trodVars_none hV
  have k0 := h0
  have lt0 : ∀ x ∈ p0, x.block < W.heap.size := by obtain ⟨m, hm⟩ := k0; exact DataW.trod_lt m _ _ _ hm
  obtain ⟨fuel0, hf0⟩ := h0
  obtain ⟨al0, cl0, ys0, rfl, le0, lm0, oks0, row0⟩ := open_parts (hval 0 22 v0 rfl rfl) hf0
  have k1 := h1
  have lt1 : ∀ x ∈ p1, x.block < W.heap.size := by obtain ⟨m, hm⟩ := k1; exact DataW.trod_lt m _ _ _ hm
  obtain ⟨fuel1, hf1⟩ := h1
  obtain ⟨al1, cl1, ys1, rfl, le1, lm1, row1⟩ := open_bools (hval 1 23 v1 rfl rfl) hf1
  have k2 := h2
  have lt2 : ∀ x ∈ p2, x.block < W.heap.size := by obtain ⟨m, hm⟩ := k2; exact DataW.trod_lt m _ _ _ hm
  obtain ⟨a2, rfl, rfl, rfl, w2⟩ := open_int Try.underlying3 (hval 2 3 v2 rfl rfl) h2
  have k3 := h3
  have lt3 : ∀ x ∈ p3, x.block < W.heap.size := by obtain ⟨m, hm⟩ := k3; exact DataW.trod_lt m _ _ _ hm
  obtain ⟨a3, rfl, rfl, rfl, w3⟩ := open_int Try.underlying3 (hval 3 3 v3 rfl rfl) h3
  clear hA0 hval0
  refine (Ty.keeps_walk al0 cl0 ys0 al1 cl1 ys1 a2 a3 le0 W oks0 row0 row1).mono fun e W' ⟨he, bel⟩ => ?_
  subst he
  exact ⟨_, rfl, _, _, _, [], _, [], hW', trodAll_mk1 (shut_bool Try.underlying4 _), (trodAll_cons_mk (Below.trod laidOut (by kernel_rfl) (of_decide_eq_true (by kernel_rfl)) k0 bel lt0) (trodAll_cons_mk (Below.trod laidOut (by kernel_rfl) (of_decide_eq_true (by kernel_rfl)) k1 bel lt1) (trodAll_cons_mk (Below.trod laidOut (by kernel_rfl) (of_decide_eq_true (by kernel_rfl)) k2 bel lt2) (trodAll_cons_mk (Below.trod laidOut (by kernel_rfl) (of_decide_eq_true (by kernel_rfl)) k3 bel lt3) trodAll_mk0)))), rfl, bel.frame _, fun h => by cases h⟩
theorem over : Rows.journalKeepsRow.holds Try.pinned (OpenSpec.ofChange Rows.journalKeepsSpec) :=
  OpenClaim.holds_of_wide 3 Try.f3 rfl rfl rfl rfl rfl rfl rfl ⟨rfl, rfl, rfl, rfl, rfl⟩ rfl rfl rfl rfl rfl (by kernel_rfl) Try.func3 (by kernel_rfl)
    (of_decide_eq_true (by kernel_rfl)) (by unfold Func.isWrapper; first | (rw [if_pos (by decide +kernel)]; kernel_rfl) | (rw [if_neg (by decide +kernel)]; exact ⟨rfl, rfl⟩))
    (fun os started H enc _ => lifted os started H enc)
end Go.Proofs.Ytfkchnjbbbhmjab.journalKeeps
namespace Go.Proofs.Ytfkchnjbbbhmjab
theorem journalKeeps_holds : Rows.JournalKeepsSaid := journalKeeps.over
#print axioms journalKeeps_holds
end Go.Proofs.Ytfkchnjbbbhmjab
