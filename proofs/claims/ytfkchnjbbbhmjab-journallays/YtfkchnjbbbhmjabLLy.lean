/- For all lists of old and new records, whatever was synced, every plan and every number of kept bytes, raddlelaw16.JournalLays returns true: while records are laid anew, a failure leaves those from ahead, the synced ones among them, or all the new ones; behind it the new ones, at least. Conditions: none beyond the row's own. -/
import Derived.Test.YtfkchnjbbbhmjabXB11
import Derived.Test.YtfkchnjbbbhmjabXB6
import Derived.Test.YtfkchnjbbbhmjabXB12
import Derived.WalkKit
import Derived.ProofKit
import Derived.OpenShut
import Derived.ShutString
import Derived.ChangeOld
namespace Go.Proofs.Ytfkchnjbbbhmjab.Ty
open Go.RowKit
open Tal
/-- an area with a turn and records -/
def one (zss : List (List Int)) (i : Nat) : List Int := catF (turnF 1 :: recsF (zss.take i))
theorem recsF_take (zss : List (List Int)) (n : Nat) : (recsF zss).take n = recsF (zss.take n) := by unfold recsF; rw [List.map_take]
theorem one_take (zss : List (List Int)) {i j : Nat} (h : j ≤ i) : (turnF 1 :: recsF (zss.take i)).take (j + 1) = turnF 1 :: recsF (zss.take j) := by
  rw [List.take_succ_cons, recsF_take, List.take_take, Nat.min_eq_left h]
structure Alive (M : Mt) (keep : Int) (zss : List (List Int)) (i sure sx : Nat) : Prop where
  st : As M 1048576 0 keep false (one zss i) sx [] 0
  lo : (one zss sure).length ≤ sx
  hi : sx ≤ (one zss i).length
  si : sure ≤ i
  il : i ≤ zss.length
structure Dead (M : Mt) (zss : List (List Int)) (i n sure : Nat) : Prop where
  on : M.on = false
  pl : M.pl = false
  room : M.room = 1048576
  fa : M.fa = 1
  il : i ≤ zss.length
  si : sure ≤ i
  hi : n ≤ (one zss i).length
  lo : (one zss sure).length ≤ n
  x : M.get false = (one zss i).take n
  y : M.get true = []
theorem lost_dead {M : Mt} {keep : Int} {zss : List (List Int)} {i sure sx : Nat} (h : Lost M 1048576 0 keep false (one zss i) sx [] 0) (lo : (one zss sure).length ≤ sx) (hi : sx ≤ (one zss i).length) (si : sure ≤ i) (il : i ≤ zss.length) : Dead M zss i (keptN keep (one zss i).length sx) sure :=
  ⟨h.on, h.pl, h.room, by rw [h.fa]; unfold wrap64; omega, il, si, keptN_le keep hi, Nat.le_trans lo (keptN_ge keep _ _), h.x, by have := h.y; simpa using this⟩
theorem alive_append {M : Mt} {keep : Int} {zss : List (List Int)} {k sure sx : Nat} (h : Alive M keep zss k sure sx) (hz : Bz zss) (hk : k < zss.length) (q p : Nat) :
    (∃ M', M.jappend ⟨q, p, 0, 1, 0⟩ zss[k] = (0, M') ∧ Alive M' keep zss (k + 1) sure sx) ∨ (∃ M' n, M.jappend ⟨q, p, 0, 1, 0⟩ zss[k] = (150, M') ∧ Dead M' zss k n sure) := by
  have hl := first_len hz k
  have hc := app_std h.st zss[k] (hz.len (List.getElem_mem hk)) (by simp; omega) q p 1
  rw [← recsF_snoc zss k hk] at hc
  have hmono : (one zss k).length ≤ (one zss (k + 1)).length := by
    unfold one
    rw [recsF_snoc zss k hk, catF_append, List.length_append]
    omega
  rcases hc with ⟨M', he, hA, -⟩ | ⟨-, M', he, hL⟩
  · exact .inl ⟨M', he, hA, h.lo, Nat.le_trans h.hi hmono, by have := h.si; omega, by omega⟩
  · exact .inr ⟨M', _, he, lost_dead hL h.lo h.hi h.si h.il⟩
theorem alive_sync {M : Mt} {keep : Int} {zss : List (List Int)} {k sure sx : Nat} (h : Alive M keep zss k sure sx) (q p : Nat) :
    (∃ M' sx', M.jsync ⟨q, p, 0, 1, 0⟩ = (0, M') ∧ Alive M' keep zss k k sx') ∨ (∃ M' n, M.jsync ⟨q, p, 0, 1, 0⟩ = (150, M') ∧ Dead M' zss k n sure) := by
  have hj : M.jon 0 = true := by unfold Mt.jon; rw [h.st.on, h.st.fa]; simp
  have hc := h.st.sync
  have e : M.jsync ⟨q, p, 0, 1, 0⟩ = M.sync (ka false) := by unfold Mt.jsync; simp only; rw [hj, if_pos rfl]; rfl
  rw [e]
  rcases hc with ⟨M', he, hA, -⟩ | ⟨-, M', he, hL⟩
  · exact .inl ⟨M', _, he, hA, Nat.le_refl _, Nat.le_refl _, Nat.le_refl _, h.il⟩
  · exact .inr ⟨M', _, he, lost_dead hL h.lo h.hi h.si h.il⟩
theorem dead_append {M : Mt} {zss : List (List Int)} {i n sure : Nat} (h : Dead M zss i n sure) (z : List Int) (j : Jv) : M.jappend j z = (150, M) := by
  unfold Mt.jappend Mt.jon
  rw [h.on]
  rfl
theorem alive_fail {M : Mt} {keep : Int} {zss : List (List Int)} {i sure sx : Nat} (h : Alive M keep zss i sure sx) : ∃ n, Dead (M.fail keep).2 zss i n sure := by
  have hL := h.st.lose keep
  refine ⟨keptN keep (one zss i).length sx, ?_⟩
  unfold Mt.fail
  rw [if_pos h.st.on]
  exact lost_dead hL h.lo h.hi h.si h.il
theorem dead_fail {M : Mt} {zss : List (List Int)} {i n sure : Nat} (h : Dead M zss i n sure) (keep : Int) : Dead (M.fail keep).2 zss i n sure := by
  unfold Mt.fail
  rw [if_neg (by rw [h.on]; simp)]
  exact h
theorem one_gd {zss : List (List Int)} (hz : Bz zss) (i : Nat) : ∀ x ∈ turnF 1 :: recsF (zss.take i), Gd x.1 x.2 := fun y hy => by
  rcases List.mem_cons.1 hy with rfl | q
  · exact gd_turn (t := 1) (by omega) (by omega)
  · exact (hz.take i).gd y q
/-- an area that was cut, and what of it is sure -/
theorem one_cut {zss : List (List Int)} (hz : Bz zss) {i n sure : Nat} (hi : n ≤ (one zss i).length) (lo : (one zss sure).length ≤ n) (si : sure ≤ i) (il : i ≤ zss.length) : ∃ r, sure ≤ r ∧ r ≤ zss.length ∧ turnW (framesW ((one zss i).take n)) = 1 ∧ recsW (framesW ((one zss i).take n)) = zss.take r := by
  obtain ⟨m, m1, m2, m3⟩ := frames_take (one_gd hz i) n hi
  have hm := m3 (sure + 1) (by simp [recsF]; omega) (by rw [one_take zss si]; exact lo)
  obtain ⟨r, rfl⟩ : ∃ r, m = r + 1 := ⟨m - 1, by omega⟩
  have hri : r ≤ i := by simp [recsF] at m1; omega
  rw [one_take zss hri] at m2
  obtain ⟨b1, b2⟩ := begin_turn (t := 1) (by omega) (by omega) (zss.take r)
  exact ⟨r, by omega, by omega, by unfold one; rw [m2]; exact b1, by unfold one; rw [m2]; exact b2⟩
theorem dead_std {M : Mt} {zss : List (List Int)} {i n sure : Nat} (h : Dead M zss i n sure) (hz : Bz zss) : ∃ r, sure ≤ r ∧ r ≤ zss.length ∧ ∃ x sx y sy, Std { M with on := true } 1 false 1 (zss.take r) x sx y sy := by
  obtain ⟨r, h1, h2, h3, h4⟩ := one_cut hz h.hi h.lo h.si h.il
  have hl := first_len hz i
  refine ⟨r, h1, h2, (one zss i).take n, M.sa, [], M.sb, ⟨⟨rfl, h.room, h.fa, fun q => (by have q' : M.pl = true := q; rw [h.pl] at q'; cases q'), h.x, rfl, h.y, rfl⟩, h.pl, h3, h4, by rw [framesW_nil]; simp [turnW], by rw [framesW_nil]; simp [turnW], ?_, by simp⟩⟩
  rw [List.length_take]
  unfold one
  omega
set_option maxRecDepth 100000 in
set_option maxHeartbeats 8000000 in
theorem begins_any (a1 a2 : Option Addr) (c1 c2 : Nat) (rs ys : List Rc) (w : World) (h1 : Recs w a1 rs) (h2 : Recs w a2 ys) (hc : ys.length ≤ c2) (r : Nat) (hr : r ≤ ys.length) (hE : rs.map Rc.zs = (ys.map Rc.zs).take r) :
    Calls Try.prog 17 #[.slice a1 rs.length c1, .slice a2 ys.length c2] w fun e w' => e = .returned (.bool true) ∧ Below w.heap.size w w' := by
  have hl1 := h1.le
  have hl2 := h2.le
  have hrl : rs.length = r := by
    have := congrArg List.length hE
    rw [List.length_map, List.length_take, List.length_map] at this
    omega
  have hle : (rs.length : Int) ≤ (ys.length : Int) := by omega
  have hlc : (rs.length : Int) ≤ (c2 : Int) := by omega
  have hyt : (ys.take r).length = rs.length := by rw [List.length_take]; omega
  have hE2 : rs.map Rc.zs = (ys.take r).map Rc.zs := by rw [List.map_take]; exact hE
  have hR2 : Recs w a2 (ys.take r) := by
    refine ⟨by omega, ?_, fun x hx => h2.rows x (List.mem_of_mem_take hx)⟩
    rcases h2.at0 with q | ⟨b, off, rfl, q2, q3⟩
    · left; rw [q]; simp
    · right
      refine ⟨b, off, rfl, q2, fun j v hv => q3 j v ?_⟩
      rw [List.map_take, List.getElem?_take] at hv
      split at hv
      · exact hv
      · cases hv
  have cS := xsame_any a1 a2 c1 c2 rs (ys.take r) w h1 hR2 hE2
  rw [hyt] at cS
  clear h1 h2 hR2 hE hE2 hyt hrl
  go_enter Try.func17, Try.ntmps17
  go_wp2_with fail
  refine cS.mono ?_
  rintro e w1 ⟨rfl, hB1⟩
  clear cS
  go_wp2
  go_ret
  exact ⟨rfl, hB1⟩
end Go.Proofs.Ytfkchnjbbbhmjab.Ty
namespace Go.Proofs.Ytfkchnjbbbhmjab.Ty
open Go.RowKit
open Tal
theorem calm_append {M : Mt} {keep : Int} {zss : List (List Int)} {k sure sx : Nat} (h : Alive M keep zss k sure sx) (hp : M.pl = false) (hz : Bz zss) (hk : k < zss.length) (q p : Nat) :
    ∃ M', M.jappend ⟨q, p, 0, 1, 0⟩ zss[k] = (0, M') ∧ Alive M' keep zss (k + 1) sure sx ∧ M'.pl = false := by
  have hl := first_len hz k
  have hc := app_std h.st zss[k] (hz.len (List.getElem_mem hk)) (by simp; omega) q p 1
  rw [← recsF_snoc zss k hk] at hc
  have hmono : (one zss k).length ≤ (one zss (k + 1)).length := by
    unfold one
    rw [recsF_snoc zss k hk, catF_append, List.length_append]
    omega
  rcases hc with ⟨M', he, hA, hpl⟩ | ⟨hpl, _⟩
  · exact ⟨M', he, ⟨hA, h.lo, Nat.le_trans h.hi hmono, by have := h.si; omega, by omega⟩, hpl hp⟩
  · rw [hp] at hpl; cases hpl
theorem calm_sync {M : Mt} {keep : Int} {zss : List (List Int)} {k sure sx : Nat} (h : Alive M keep zss k sure sx) (hp : M.pl = false) (q p : Nat) :
    ∃ M' sx', M.jsync ⟨q, p, 0, 1, 0⟩ = (0, M') ∧ Alive M' keep zss k k sx' ∧ M'.pl = false := by
  have hj : M.jon 0 = true := by unfold Mt.jon; rw [h.st.on, h.st.fa]; simp
  have hc := h.st.sync
  have e : M.jsync ⟨q, p, 0, 1, 0⟩ = M.sync (ka false) := by unfold Mt.jsync; simp only; rw [hj, if_pos rfl]; rfl
  rw [e]
  rcases hc with ⟨M', he, hA, hpl⟩ | ⟨hpl, _⟩
  · exact ⟨M', _, he, ⟨hA, Nat.le_refl _, Nat.le_refl _, Nat.le_refl _, h.il⟩, hpl hp⟩
  · rw [hp] at hpl; cases hpl
theorem alive_arm {M : Mt} {keep : Int} {zss : List (List Int)} {k sure sx : Nat} (h : Alive M keep zss k sure sx) (n : Nat) : ∃ M', M.arm (n : Int) keep = (0, M') ∧ Alive M' keep zss k sure sx := by
  refine ⟨{ M with pl := true, af := (n : Int), ke := keep }, ?_, ⟨⟨h.st.on, h.st.room, h.st.fa, fun _ => rfl, h.st.x, h.st.sx, h.st.y, h.st.sy⟩, h.lo, h.hi, h.si, h.il⟩⟩
  unfold Mt.arm
  rw [if_neg (by omega), if_pos h.st.on]
/-- what is there behind Lay, a failure, and power again -/
def Laid (M : Mt) (old recs : List (List Int)) (sure : Nat) (laid : Bool) : Prop :=
  ∃ (kk : Bool) (t : Int) (Z : List (List Int)) (x : List Int) (sx : Nat) (y : List Int) (sy : Nat), Std { M with on := true } 1 kk t Z x sx y sy ∧ 1 ≤ t ∧ t ≤ 2 ∧ (Z = recs ∨ (laid = false ∧ ∃ r, sure ≤ r ∧ r ≤ old.length ∧ Z = old.take r))
theorem cut_lt {zss : List (List Int)} (hz : Bz zss) (i n : Nat) : ((one zss i).take n).length ≤ 9000 := by
  have := first_len hz i
  rw [List.length_take]
  unfold one
  omega
theorem lay_end {M : Mt} {keep : Int} {old recs : List (List Int)} {sure sx : Nat} (h : Alive M keep old old.length sure sx) (ho : Bz old) (hr : Bz recs) (q p : Nat) :
    ∃ M', (layM M ⟨q, p, 0, 1, 0⟩ (zR recs)).M = M' ∧ (((layM M ⟨q, p, 0, 1, 0⟩ (zR recs)).e = 0 ∧ Laid (M'.fail keep).2 old recs sure true) ∨ ((layM M ⟨q, p, 0, 1, 0⟩ (zR recs)).e = 150 ∧ Laid (M'.fail keep).2 old recs sure false)) := by
  have hsz := recs_size hr
  have hw := hr.w
  have hts := turn_size (t := 2) (by omega)
  have e1 : catF (recsF recs ++ [turnF 2]) = catF (recsF recs) ++ frameL 71 (strOf (putL 2)) := by rw [catF_append]; simp [catF, turnF]
  have hlen : (catF (recsF recs ++ [turnF 2])).length ≤ 9000 := by rw [e1, List.length_append]; omega
  have hol := first_len ho old.length
  have hfill := fill h.st.other (.inl rfl) 2 recs (by unfold one; omega)
  have hgd : ∀ x ∈ recsF recs ++ [turnF 2], Gd x.1 x.2 := fun y hy => by
    rcases List.mem_append.1 hy with q | q
    · exact hr.gd y q
    · rw [List.mem_singleton.1 q]; exact gd_turn (t := 2) (by omega) (by omega)
  obtain ⟨et1, et2⟩ := end_turn (t := 2) (by omega) (by omega) recs
  have hfr := frames_all hgd
  have hjon : M.jon 0 = true := by unfold Mt.jon; rw [h.st.on, h.st.fa]; simp
  have htk : takesE (M.jon 0) (zR recs) = 0 := by
    unfold takesE
    rw [hjon, if_pos rfl, if_pos ?_]
    intro r hr'
    obtain ⟨z, hz', rfl⟩ := List.mem_map.1 hr'
    have := hr.len hz'
    simp only
    omega
  have hlay : layM M ⟨q, p, 0, 1, 0⟩ (zR recs) = layW ⟨q, p, 0, 1, 0⟩ (writeM M (ka true) 2 recs) := by
    unfold layM
    simp only
    rw [if_pos htk, if_neg (by omega), zR_zs]
    rfl
  rw [hlay]
  obtain ⟨r, c1, c2, c3, c4⟩ := one_cut ho (keptN_le keep h.hi) (Nat.le_trans h.lo (keptN_ge keep _ _)) h.si h.il
  rcases hfill with ⟨M', he, hA, -⟩ | ⟨-, M', n, he, q1, q2, q3, q4, q5, q6, q7⟩
  · have hk : (!false) = true := rfl
    rw [hk] at he hA
    rw [he]
    unfold layW
    simp only
    rw [if_pos trivial]
    refine ⟨M', rfl, .inl ⟨rfl, ?_⟩⟩
    have hL := hA.lose keep
    have hfl : (M'.fail keep).2 = M'.lose keep := by unfold Mt.fail; rw [if_pos hA.on]
    rw [hfl]
    have hx := hL.x
    have hkp : keptN keep (catF (recsF recs ++ [turnF 2])).length (catF (recsF recs ++ [turnF 2])).length = (catF (recsF recs ++ [turnF 2])).length := by
      have := keptN_le keep (n := (catF (recsF recs ++ [turnF 2])).length) (s := (catF (recsF recs ++ [turnF 2])).length) (Nat.le_refl _)
      have := keptN_ge keep (catF (recsF recs ++ [turnF 2])).length (catF (recsF recs ++ [turnF 2])).length
      omega
    rw [hkp, List.take_length] at hx
    refine ⟨true, 2, recs, catF (recsF recs ++ [turnF 2]), (M'.lose keep).sb, _, (M'.lose keep).sa, ⟨⟨rfl, hL.room, by have := hL.fa; rw [show wrap64 (0 + 1) = 1 by unfold wrap64; omega] at this; exact this, fun q => (by cases q), hx, rfl, hL.y, rfl⟩, rfl, by rw [hfr]; exact et1, by rw [hfr]; exact et2, by rw [c3]; omega, by rw [c3]; omega, hlen, cut_lt ho _ _⟩, by omega, by omega, .inl rfl⟩
  · have hk : (!false) = true := rfl
    rw [hk] at he q6 q7
    rw [he]
    unfold layW
    simp only
    rw [if_neg (by omega), if_neg (by omega)]
    refine ⟨M', rfl, .inr ⟨rfl, ?_⟩⟩
    have hfl : (M'.fail keep).2 = M' := by unfold Mt.fail; rw [if_neg (by rw [q1]; simp)]
    rw [hfl]
    have q7' : M'.get false = (one old old.length).take (keptN keep (one old old.length).length sx) := q7
    have hfa : M'.fa = 1 := by rw [q4]; unfold wrap64; omega
    obtain ⟨m, m1, m2, -⟩ := frames_take hgd n q5
    have hml : m ≤ recs.length + 1 := by simpa [recsF] using m1
    by_cases hm : m = recs.length + 1
    · have ht : (recsF recs ++ [turnF 2]).take m = recsF recs ++ [turnF 2] := List.take_of_length_le (by simp [recsF]; omega)
      rw [ht] at m2
      refine ⟨true, 2, recs, _, M'.sb, _, M'.sa, ⟨⟨rfl, q3, hfa, fun q => (by have q' : M'.pl = true := q; rw [q2] at q'; cases q'), q6, rfl, q7', rfl⟩, q2, by rw [m2]; exact et1, by rw [m2]; exact et2, by rw [c3]; omega, by rw [c3]; omega, by rw [List.length_take]; omega, cut_lt ho _ _⟩, by omega, by omega, .inl rfl⟩
    · have ht : (recsF recs ++ [turnF 2]).take m = recsF (recs.take m) := by
        rw [List.take_append_of_le_length (by simp [recsF]; omega), recsF_take]
      rw [ht] at m2
      have t0 : turnW (framesW ((catF (recsF recs ++ [turnF 2])).take n)) = 0 := by rw [m2]; exact turnW_recs _ 0
      refine ⟨false, 1, old.take r, _, M'.sa, _, M'.sb, ⟨⟨rfl, q3, hfa, fun q => (by have q' : M'.pl = true := q; rw [q2] at q'; cases q'), q7', rfl, q6, rfl⟩, q2, c3, c4, by rw [t0]; omega, by rw [t0]; omega, cut_lt ho _ _, by rw [List.length_take]; omega⟩, by omega, by omega, .inr ⟨rfl, r, c1, c2, rfl⟩⟩
end Go.Proofs.Ytfkchnjbbbhmjab.Ty
namespace Go.Proofs.Ytfkchnjbbbhmjab.Ty
open Go.RowKit
open Tal
set_option maxRecDepth 100000 in
set_option maxHeartbeats 4000000 in
theorem xsame_gen (a1 a2 : Option Addr) (c1 c2 : Nat) (rs ss : List Rc) (w : World) (h1 : Recs w a1 rs) (h2 : Recs w a2 ss) :
    Calls Try.prog 16 #[.slice a1 rs.length c1, .slice a2 ss.length c2] w fun e w' => (e = .returned (.bool true) ∨ e = .returned (.bool false)) ∧ Below w.heap.size w w' := by
  have hle := h1.le
  by_cases hlen : ss.length = rs.length
  rotate_left
  · have hn : ((rs.length : Int) != (ss.length : Int)) = true := bne_iff_ne.2 (by omega)
    go_enter Try.func16, Try.ntmps16
    clear hlen h1 h2 hle
    go_wp2
    go_ret
    exact ⟨.inr rfl, Below.refl _ _⟩
  rw [hlen]
  go_enter Try.func16, Try.ntmps16
  go_wp2_with fail
  go_loopw [5] (fun iv wr => ∃ k : Nat, k ≤ rs.length ∧ iv = .int .i64 (k : Int) ∧ Below w.heap.size w wr) (fun iv _ => rs.length - (intOf iv).toNat)
  case atStart => exact ⟨0, by omega, rfl, Below.refl _ _⟩
  case round =>
    obtain ⟨k, hk, rfl, hB⟩ := hrel
    by_cases hlt : k < rs.length
    · obtain ⟨b1, o1, rfl, hb1, hc1, hr1⟩ := h1.get k hlt
      obtain ⟨b2, o2, rfl, hb2, hc2, hr2⟩ := h2.get k (by omega)
      generalize rs[k] = x at *
      generalize (ss[k]'(by omega)) = y at *
      obtain ⟨xa, xc, xz⟩ := x
      obtain ⟨ya, yc, yz⟩ := y
      simp only at hc1 hc2 hr1 hr2
      clear h1 h2 hlen
      have hltI : (k : Int) < (rs.length : Int) := by omega
      go_wp2_with fail
      obtain ⟨w8, hw8⟩ : ∃ w8, wr.drew = w8 := ⟨_, rfl⟩
      have hB8 : Below w.heap.size w w8 := by rw [← hw8]; exact hB.drew
      have cA : ∀ w', Below w8.heap.size w8 w' → w'.cell? ⟨b1, o1 + k, none⟩ = some (.slice xa xz.length xc) := fun w' hw => (cell_block ((hB8.trans (hw.mono hB8.size)).block b1 hb1)).1.trans hc1
      have cB : ∀ w', Below w8.heap.size w8 w' → w'.cell? ⟨b2, o2 + k, none⟩ = some (.slice ya yz.length yc) := fun w' hw => (cell_block ((hB8.trans (hw.mono hB8.size)).block b2 hb2)).1.trans hc2
      have kA : ∀ w', Below w8.heap.size w8 w' → (convert 34 9 (.slice xa xz.length xc)).run Try.prog w' = .ok (.string (strOf xz)) w' := fun w' hw => _root_.Go.Proofs.Ytfkchnjbbbhmjab.row_str (cap := xc) (hr1.below (hB8.trans (hw.mono hB8.size)))
      have kB : ∀ w', Below w8.heap.size w8 w' → (convert 34 9 (.slice ya yz.length yc)).run Try.prog w' = .ok (.string (strOf yz)) w' := fun w' hw => _root_.Go.Proofs.Ytfkchnjbbbhmjab.row_str (cap := yc) (hr2.below (hB8.trans (hw.mono hB8.size)))
      refine hs_begin (S := (Below w8.heap.size w8)) 11 rfl (by kernel_rfl) ?_
      rw [hw8]
      clear hw8 hc1 hc2 hr1 hr2
      have hS : (Below w8.heap.size w8) w8 := Below.refl _ _
      generalize strOf xz = sx at *
      generalize strOf yz = sy at *
      by_cases hxy : sx = sy
      · subst hxy
        refine hs_take (i := 0) (d := some 17) (v := ?_) rfl (by kernel_rfl) (by kernel_rfl) (by kernel_rfl) (by rfl) ?_ hS rfl ?_
        rotate_left
        · intro w' hw
          go_simp
          try with_reducible rfl
        simp only [Act.put, List.setIfInBounds_toArray, List.set_cons_zero, List.set_cons_succ]
        refine hs_take (i := 1) (d := some 18) (v := ?_) rfl (by kernel_rfl) (by kernel_rfl) (by kernel_rfl) (by rfl) ?_ hS rfl ?_
        rotate_left
        · intro w' hw
          go_simp
          try with_reducible rfl
        simp only [Act.put, List.setIfInBounds_toArray, List.set_cons_zero, List.set_cons_succ]
        refine hs_take (i := 2) (d := some 19) (v := ?_) rfl (by kernel_rfl) (by kernel_rfl) (by kernel_rfl) (by rfl) ?_ hS rfl ?_
        rotate_left
        · intro w' hw
          go_simp
          try with_reducible rfl
        simp only [Act.put, List.setIfInBounds_toArray, List.set_cons_zero, List.set_cons_succ]
        refine hs_take (i := 3) (d := some 20) (v := ?_) rfl (by kernel_rfl) (by kernel_rfl) (by kernel_rfl) (by rfl) ?_ hS rfl ?_
        rotate_left
        · intro w' hw
          have := cA w' hw
          go_simp
          try with_reducible rfl
        simp only [Act.put, List.setIfInBounds_toArray, List.set_cons_zero, List.set_cons_succ]
        refine hs_take (i := 4) (d := some 21) (v := .string sx) rfl (by kernel_rfl) (by kernel_rfl) (by kernel_rfl) (by rfl) (fun w' hw => by have := kA w' hw; go_simp) hS rfl ?_
        simp only [Act.put, List.setIfInBounds_toArray, List.set_cons_zero, List.set_cons_succ]
        refine hs_take (i := 5) (d := some 22) (v := ?_) rfl (by kernel_rfl) (by kernel_rfl) (by kernel_rfl) (by rfl) ?_ hS rfl ?_
        rotate_left
        · intro w' hw
          go_simp
          try with_reducible rfl
        simp only [Act.put, List.setIfInBounds_toArray, List.set_cons_zero, List.set_cons_succ]
        refine hs_take (i := 6) (d := some 23) (v := ?_) rfl (by kernel_rfl) (by kernel_rfl) (by kernel_rfl) (by rfl) ?_ hS rfl ?_
        rotate_left
        · intro w' hw
          go_simp
          try with_reducible rfl
        simp only [Act.put, List.setIfInBounds_toArray, List.set_cons_zero, List.set_cons_succ]
        refine hs_take (i := 7) (d := some 24) (v := ?_) rfl (by kernel_rfl) (by kernel_rfl) (by kernel_rfl) (by rfl) ?_ hS rfl ?_
        rotate_left
        · intro w' hw
          go_simp
          try with_reducible rfl
        simp only [Act.put, List.setIfInBounds_toArray, List.set_cons_zero, List.set_cons_succ]
        refine hs_take (i := 8) (d := some 25) (v := ?_) rfl (by kernel_rfl) (by kernel_rfl) (by kernel_rfl) (by rfl) ?_ hS rfl ?_
        rotate_left
        · intro w' hw
          have := cB w' hw
          go_simp
          try with_reducible rfl
        simp only [Act.put, List.setIfInBounds_toArray, List.set_cons_zero, List.set_cons_succ]
        refine hs_take (i := 9) (d := some 26) (v := .string sx) rfl (by kernel_rfl) (by kernel_rfl) (by kernel_rfl) (by rfl) (fun w' hw => by have := kB w' hw; go_simp) hS rfl ?_
        simp only [Act.put, List.setIfInBounds_toArray, List.set_cons_zero, List.set_cons_succ]
        refine hs_take (i := 10) (d := some 27) (v := .bool false) rfl (by kernel_rfl) (by kernel_rfl) (by kernel_rfl) (by rfl) (fun w' hw => by go_simp) hS rfl ?_
        simp only [Act.put, List.setIfInBounds_toArray, List.set_cons_zero, List.set_cons_succ]
        refine hs_done (by kernel_rfl) ?_
        go_wp2
        go_roundw
        case rel => exact ⟨k + 1, by omega, by go_num, hB8⟩
        case measure => simp [intOf]; omega
      · have hne : ¬ sx.toList = sy.toList := fun q => hxy (by
          rw [ByteArray.toList_eq, ByteArray.toList_eq] at q
          exact ByteArray.ext (Array.toList_inj.1 q))
        refine hs_take (i := 0) (d := some 17) (v := ?_) rfl (by kernel_rfl) (by kernel_rfl) (by kernel_rfl) (by rfl) ?_ hS rfl ?_
        rotate_left
        · intro w' hw
          go_simp
          try with_reducible rfl
        simp only [Act.put, List.setIfInBounds_toArray, List.set_cons_zero, List.set_cons_succ]
        refine hs_take (i := 1) (d := some 18) (v := ?_) rfl (by kernel_rfl) (by kernel_rfl) (by kernel_rfl) (by rfl) ?_ hS rfl ?_
        rotate_left
        · intro w' hw
          go_simp
          try with_reducible rfl
        simp only [Act.put, List.setIfInBounds_toArray, List.set_cons_zero, List.set_cons_succ]
        refine hs_take (i := 2) (d := some 19) (v := ?_) rfl (by kernel_rfl) (by kernel_rfl) (by kernel_rfl) (by rfl) ?_ hS rfl ?_
        rotate_left
        · intro w' hw
          go_simp
          try with_reducible rfl
        simp only [Act.put, List.setIfInBounds_toArray, List.set_cons_zero, List.set_cons_succ]
        refine hs_take (i := 3) (d := some 20) (v := ?_) rfl (by kernel_rfl) (by kernel_rfl) (by kernel_rfl) (by rfl) ?_ hS rfl ?_
        rotate_left
        · intro w' hw
          have := cA w' hw
          go_simp
          try with_reducible rfl
        simp only [Act.put, List.setIfInBounds_toArray, List.set_cons_zero, List.set_cons_succ]
        refine hs_take (i := 4) (d := some 21) (v := .string sx) rfl (by kernel_rfl) (by kernel_rfl) (by kernel_rfl) (by rfl) (fun w' hw => by have := kA w' hw; go_simp) hS rfl ?_
        simp only [Act.put, List.setIfInBounds_toArray, List.set_cons_zero, List.set_cons_succ]
        refine hs_take (i := 5) (d := some 22) (v := ?_) rfl (by kernel_rfl) (by kernel_rfl) (by kernel_rfl) (by rfl) ?_ hS rfl ?_
        rotate_left
        · intro w' hw
          go_simp
          try with_reducible rfl
        simp only [Act.put, List.setIfInBounds_toArray, List.set_cons_zero, List.set_cons_succ]
        refine hs_take (i := 6) (d := some 23) (v := ?_) rfl (by kernel_rfl) (by kernel_rfl) (by kernel_rfl) (by rfl) ?_ hS rfl ?_
        rotate_left
        · intro w' hw
          go_simp
          try with_reducible rfl
        simp only [Act.put, List.setIfInBounds_toArray, List.set_cons_zero, List.set_cons_succ]
        refine hs_take (i := 7) (d := some 24) (v := ?_) rfl (by kernel_rfl) (by kernel_rfl) (by kernel_rfl) (by rfl) ?_ hS rfl ?_
        rotate_left
        · intro w' hw
          go_simp
          try with_reducible rfl
        simp only [Act.put, List.setIfInBounds_toArray, List.set_cons_zero, List.set_cons_succ]
        refine hs_take (i := 8) (d := some 25) (v := ?_) rfl (by kernel_rfl) (by kernel_rfl) (by kernel_rfl) (by rfl) ?_ hS rfl ?_
        rotate_left
        · intro w' hw
          have := cB w' hw
          go_simp
          try with_reducible rfl
        simp only [Act.put, List.setIfInBounds_toArray, List.set_cons_zero, List.set_cons_succ]
        refine hs_take (i := 9) (d := some 26) (v := .string sy) rfl (by kernel_rfl) (by kernel_rfl) (by kernel_rfl) (by rfl) (fun w' hw => by have := kB w' hw; go_simp) hS rfl ?_
        simp only [Act.put, List.setIfInBounds_toArray, List.set_cons_zero, List.set_cons_succ]
        refine hs_take (i := 10) (d := some 27) (v := .bool true) rfl (by kernel_rfl) (by kernel_rfl) (by kernel_rfl) (by rfl) (fun w' hw => by go_simp) hS rfl ?_
        simp only [Act.put, List.setIfInBounds_toArray, List.set_cons_zero, List.set_cons_succ]
        refine hs_done (by kernel_rfl) ?_
        go_wp2
        go_ret
        exact ⟨.inr rfl, hB8⟩
    · obtain rfl : k = rs.length := by omega
      go_wp2
      go_ret
      exact ⟨.inl rfl, hB⟩
end Go.Proofs.Ytfkchnjbbbhmjab.Ty
namespace Go.Proofs.Ytfkchnjbbbhmjab.Ty
open Go.RowKit
open Tal
theorem hun_of (z : Int) : ∃ n : Nat, n < 120 ∧ wrap64 ((IntKind.u64.wrap z).tmod 120) = (n : Int) := by
  rw [IntKind.wrap_u64]
  have h0 : 0 ≤ z % 18446744073709551616 := Int.emod_nonneg _ (by omega)
  rw [Int.tmod_eq_emod_of_nonneg h0]
  refine ⟨((z % 18446744073709551616) % 120).toNat, by omega, ?_⟩
  unfold wrap64
  omega
theorem some_of (z : Int) (n : Nat) (hn : n ≤ 100) : ∃ k : Nat, k ≤ n ∧ wrap64 ((IntKind.u64.wrap z).tmod ((n : Int) + 1)) = (k : Int) := by
  rw [IntKind.wrap_u64]
  have h0 : 0 ≤ z % 18446744073709551616 := Int.emod_nonneg _ (by omega)
  rw [Int.tmod_eq_emod_of_nonneg h0]
  have h1 : 0 ≤ (z % 18446744073709551616) % ((n : Int) + 1) := Int.emod_nonneg _ (by omega)
  have h2 : (z % 18446744073709551616) % ((n : Int) + 1) < (n : Int) + 1 := Int.emod_lt_of_pos _ (by omega)
  refine ⟨((z % 18446744073709551616) % ((n : Int) + 1)).toNat, by omega, ?_⟩
  generalize (z % 18446744073709551616) % ((n : Int) + 1) = m at *
  unfold wrap64
  omega
set_option maxRecDepth 100000 in
set_option maxHeartbeats 16000000 in
theorem lays_walk (ol : Option Addr) (oc : Nat) (os : List Rc) (al : Option Addr) (cl : Nat) (ys : List Rc) (synced nn keep : Int) (hco : os.length ≤ oc) (w : World) (hoo : ∀ y ∈ os, y.ok w) (hor : RowOf Rc.cells w ol os) (hok : ∀ y ∈ ys, y.ok w) (hrow : RowOf Rc.cells w al ys) :
    Calls Try.prog 4 #[.slice ol os.length oc, .slice al ys.length cl, .int .i64 synced, .int .i64 nn, .int .i64 keep] w fun e w' => e = .returned (.bool true) ∧ Below w.heap.size w w' := by
  by_cases hbig : 100 < os.length
  · have hbI : (100 : Int) < (os.length : Int) := by omega
    go_enter Try.func4, Try.ntmps4
    have cV := lives16_any w
    go_wp2_with fail
    refine cV.mono ?_
    rintro e w9 ⟨rfl, hB9⟩
    clear cV
    go_wp2
    go_ret
    exact ⟨rfl, hB9⟩
  have hnI : ¬ (100 : Int) < (os.length : Int) := by omega
  by_cases hbig2 : 100 < ys.length
  · have hbI : (100 : Int) < (ys.length : Int) := by omega
    go_enter Try.func4, Try.ntmps4
    have cV := lives16_any w
    go_wp2_with fail
    refine cV.mono ?_
    rintro e w9 ⟨rfl, hB9⟩
    clear cV
    go_wp2
    go_ret
    exact ⟨rfl, hB9⟩
  have hnI2 : ¬ (100 : Int) < (ys.length : Int) := by omega
  have hRo := recs_of (by omega) hor hoo
  have hRy := recs_of (by omega) hrow hok
  have cL := Light16_any ol oc os w hRo
  go_enter Try.func4, Try.ntmps4
  go_wp2_with fail
  refine cL.mono ?_
  rintro e w1 (⟨rfl, hB1⟩ | ⟨rfl, hB1, hwo⟩)
  · clear cL
    have cV := lives16_any w1
    go_wp2_with fail
    refine cV.mono ?_
    rintro e w9 ⟨rfl, hB9⟩
    clear cV
    go_wp2
    go_ret
    exact ⟨rfl, hB1.trans (hB9.mono hB1.size)⟩
  clear cL
  have cL := Light16_any al cl ys w1 (hRy.below' hB1)
  go_wp2_with fail
  refine cL.mono ?_
  rintro e w2 (⟨rfl, hB2⟩ | ⟨rfl, hB2, hwy⟩)
  · clear cL
    have cV := lives16_any w2
    go_wp2_with fail
    refine cV.mono ?_
    rintro e w9 ⟨rfl, hB9⟩
    clear cV
    go_wp2
    go_ret
    exact ⟨rfl, (hB1.trans (hB2.mono hB1.size)).trans (hB9.mono (Nat.le_trans hB1.size hB2.size))⟩
  clear cL
  have hzo := bz_of (fun y hy => (hoo y hy).row) hwo
  have hzy := bz_of (fun y hy => (hok y hy).row) hwy
  have hB02 : Below w.heap.size w w2 := hB1.trans (hB2.mono hB1.size)
  have cN := live_new 1048576 w2 (by omega) (by omega)
  go_wp2_with fail
  refine cN.mono ?_
  rintro e w3 ⟨rfl, hB3, hT3⟩
  clear cN
  obtain ⟨p, hp⟩ : ∃ p, Hid (w2.heap.size = p) := ⟨_, hide rfl⟩
  rw [hp.out] at hT3 ⊢
  have hwp : w.heap.size ≤ p := by rw [← hp.out]; exact hB02.size
  have hB03 : Below w.heap.size w w3 := hB02.trans (hB3.mono hB02.size)
  have lt3 : ∀ b, (fun b => b < p) b → b < w3.heap.size := fun b hb => Nat.lt_of_lt_of_le hb (by rw [← hp.out]; exact hB3.size)
  have hp3 : p ≤ w3.heap.size := by rw [← hp.out]; exact hB3.size
  have cO := open_on p V0 (fun b => b < p) w3 hT3 lt3 rfl (by show (1048576 : Int) ≤ _; omega)
  simp only [vopen0, vrec0] at cO
  go_wp2_with fail
  refine cO.mono ?_
  rintro e w4 ⟨q, A2, hOp⟩
  clear cO hT3 lt3
  obtain ⟨h2up, h2q, h2lt, -, h2off, hq0, hT4, hsaid⟩ := hOp
  simp only at hT4 hsaid
  rcases hsaid with ⟨h, -⟩ | ⟨-, hJ4, v, rs, rfl, hW, hzs, -⟩
  · exact absurd rfl h
  obtain rfl : rs = [] := by simpa using hzs
  obtain ⟨ra, rc, rfl, -, -, -⟩ := hW.recs (by simp)
  clear hW hzs
  have hup : ∀ b, b < w.heap.size → A2 b := fun b hb => h2up b (by omega)
  have hqw : w.heap.size ≤ q := by omega
  have hB4 : Below w.heap.size w w4 := hB03.trans (h2off.below hB03.size (fun b hb q => q (by show b < p; omega)))
  clear h2off hB02 hB1 hB2 h2up hB3 hB03 hp3 hq0
  obtain ⟨kk, hkk, HK1⟩ := some_of synced os.length (by omega)
  have RK : IntKind.i64.wrap ((IntKind.u64.wrap synced).tmod ((os.length : Int) + 1)) = (kk : Int) := by rw [IntKind.wrap_i64]; unfold wrap64 at HK1; exact HK1
  have WK : IntKind.u64.wrap ((os.length : Int) + 1) = (os.length : Int) + 1 := by rw [IntKind.wrap_u64]; omega
  obtain ⟨n2, hn2, HT⟩ := hun_of nn
  have RB : IntKind.i64.wrap ((IntKind.u64.wrap nn).tmod 120) = (n2 : Int) := by rw [IntKind.wrap_i64]; unfold wrap64 at HT; exact HT
  have HRo := hide hRo
  have HRy := hide hRy
  have HOR := hide hrow
  clear hRo hRy hoo hok hor hrow
  obtain ⟨old, hold⟩ : ∃ zss, Hid (os.map Rc.zs = zss) := ⟨_, hide rfl⟩
  obtain ⟨new, hnew⟩ : ∃ zss, Hid (ys.map Rc.zs = zss) := ⟨_, hide rfl⟩
  rw [hold.out] at hzo
  rw [hnew.out] at hzy
  have hzl : Hid (old.length = os.length) := hide (by rw [← hold.out, List.length_map])
  go_wp2_with fail
  go_loopw [59] (fun iv wr => ∃ (i sure sx : Nat) (M : Mt), i ≤ os.length ∧ iv = .int .i64 (i : Int) ∧ JAt wr ⟨q, p, 0, 1, 0⟩ ∧ Live A2 wr p M ∧ Hid (Alive M keep old i sure sx ∧ M.pl = false ∧ (kk < i → sure = kk)) ∧ (∀ b, A2 b → b < wr.heap.size) ∧ Below w.heap.size w wr) (fun iv _ => os.length - (intOf iv).toNat)
  case atStart =>
    have e : one old 0 = catF (turnF 1 :: recsF []) := by unfold one; rw [List.take_zero]
    exact ⟨0, 0, (one old 0).length, V1, by omega, rfl, hJ4, hT4, hide ⟨⟨by rw [e]; exact As.keep0 vas1 vpl1, Nat.le_refl _, Nat.le_refl _, Nat.le_refl _, Nat.zero_le _⟩, vpl1, fun h => by omega⟩, h2lt, hB4⟩
  case round =>
    clear hJ4 hT4 h2lt hB4
    obtain ⟨i, sure, sx, M, hi, rfl, hJ, hT, hM, hlt2, hB⟩ := hrel
    by_cases hlt : i < os.length
    · have hltI : (i : Int) < (os.length : Int) := by omega
      obtain ⟨b1, o1, hA1, hb1, hc1, hr1⟩ := (HRo.out.below' hB).get i hlt
      have hget : Hid (∀ W', Below w.heap.size w W' → RowAt W' os[i].a os[i].zs) := hide (fun W' hb => (HRo.out.below' hb).rows _ (List.getElem_mem hlt))
      have hkz : i < old.length := by rw [hzl.out]; exact hlt
      have hzk : old[i] = os[i].zs := by simp only [← hold.out, List.getElem_map]
      have hap : Hid (∀ (N : Mt) (s x : Nat), Alive N keep old i s x → N.pl = false → ∃ M', N.jappend ⟨q, p, 0, 1, 0⟩ os[i].zs = (0, M') ∧ Alive M' keep old (i + 1) s x ∧ M'.pl = false) := hide (fun N s x h1 h2 => by
        rw [← hzk]
        exact calm_append h1 h2 hzo hkz q p)
      clear hzk
      generalize os[i] = y at *
      obtain ⟨ya, yc, yz⟩ := y
      simp only at hc1 hr1 hap hget
      subst hA1
      by_cases hik : i = kk
      · have hikI : ((i : Int) == (kk : Int)) = true := beq_iff_eq.2 (by omega)
        obtain ⟨M1, sx1, he1, hA, hp1⟩ := calm_sync hM.out.1 hM.out.2.1 q p
        obtain ⟨M2, he2, hA2', hp2⟩ := hap.out M1 i sx1 hA hp1
        have cY := jsync_any ⟨q, p, 0, 1, 0⟩ M A2 wr hJ hT hlt2 h2q
        rw [he1] at cY
        unfold jptr at cY
        simp only at cY
        have HM := hide (And.intro hA2' (And.intro hp2 (show kk < i + 1 → i = kk from fun _ => hik)))
        have HE2 := hide he2
        clear hM hap he1 hA hp1 he2 hA2' hp2 hik hr1
        go_wp2_with fail
        refine cY.mono ?_
        rintro e w5 ⟨rfl, hT5, hJ5, hO5⟩
        clear cY
        have hB5 : Below w.heap.size w w5 := hB.trans (hO5.below hB.size (fun b hb q => q (hup b hb)))
        have lt5 : ∀ b, A2 b → b < w5.heap.size := fun b hb => Nat.lt_of_lt_of_le (hlt2 b hb) hO5.size
        clear hO5 hT hJ hc1
        have cA := jappend_any ⟨q, p, 0, 1, 0⟩ M1 A2 ya yc yz w5 hJ5 hT5 lt5 h2q (hget.out w5 hB5)
        rw [HE2.out] at cA
        unfold jptr at cA
        simp only at cA
        go_wp2_with fail
        refine cA.mono ?_
        rintro e w6 ⟨rfl, hT6, hJ6, hO6⟩
        clear cA
        have hB6 : Below w.heap.size w w6 := hB5.trans (hO6.below hB5.size (fun b hb q => q (hup b hb)))
        have lt6 : ∀ b, A2 b → b < w6.heap.size := fun b hb => Nat.lt_of_lt_of_le (lt5 b hb) hO6.size
        clear hO6 hT5 hJ5
        go_wp2
        go_roundw
        case rel => exact ⟨i + 1, i, sx1, M2, by omega, by go_num, hJ6, hT6, HM, lt6, hB6⟩
        case measure => simp [intOf]; omega
      · have hikI : ((i : Int) == (kk : Int)) = false := beq_eq_false_iff_ne.2 (by omega)
        obtain ⟨M2, he2, hA2', hp2⟩ := hap.out M sure sx hM.out.1 hM.out.2.1
        have HM := hide (And.intro hA2' (And.intro hp2 (show kk < i + 1 → sure = kk from fun h => hM.out.2.2 (by omega))))
        have cA := jappend_any ⟨q, p, 0, 1, 0⟩ M A2 ya yc yz wr hJ hT hlt2 h2q hr1
        rw [he2] at cA
        unfold jptr at cA
        simp only at cA
        clear hM hap he2 hA2' hp2 hik hr1
        go_wp2_with fail
        refine cA.mono ?_
        rintro e w6 ⟨rfl, hT6, hJ6, hO6⟩
        clear cA
        have hB6 : Below w.heap.size w w6 := hB.trans (hO6.below hB.size (fun b hb q => q (hup b hb)))
        have lt6 : ∀ b, A2 b → b < w6.heap.size := fun b hb => Nat.lt_of_lt_of_le (hlt2 b hb) hO6.size
        clear hO6 hT hJ hc1
        go_wp2
        go_roundw
        case rel => exact ⟨i + 1, sure, sx, M2, by omega, by go_num, hJ6, hT6, HM, lt6, hB6⟩
        case measure => simp [intOf]; omega
    · obtain rfl : i = os.length := by omega
      by_cases hik : kk = os.length
      · have hikI : ((kk : Int) == (os.length : Int)) = true := beq_iff_eq.2 (by omega)
        obtain ⟨M1, sx1, he1, hA, hp1⟩ := calm_sync hM.out.1 hM.out.2.1 q p
        obtain ⟨M2, he2, hA2'⟩ := alive_arm hA n2
        have cY := jsync_any ⟨q, p, 0, 1, 0⟩ M A2 wr hJ hT hlt2 h2q
        rw [he1] at cY
        unfold jptr at cY
        simp only at cY
        have hAl0 : Hid (Alive M2 keep old old.length kk sx1) := hide (by rw [hzl.out, hik]; exact hA2')
        have HE2 := hide he2
        have HKK := hide hik
        clear hM he1 hA hp1 he2 hA2' hik hlt
        go_wp2_with fail
        refine cY.mono ?_
        rintro e w5 ⟨rfl, hT5, hJ5, hO5⟩
        clear cY
        have hB5 : Below w.heap.size w w5 := hB.trans (hO5.below hB.size (fun b hb q => q (hup b hb)))
        have lt5 : ∀ b, A2 b → b < w5.heap.size := fun b hb => Nat.lt_of_lt_of_le (hlt2 b hb) hO5.size
        clear hO5 hT hJ
        have cA := live_arm hT5 lt5 (n2 : Int) keep (by omega)
        rw [HE2.out] at cA
        go_wp2_with fail
        refine cA.mono ?_
        rintro e w6 ⟨rfl, hT6, hO6⟩
        clear cA HE2
        have hJ := hJ5.at (hO6.2 q (lt5 q h2q) (fun hh => hh h2q))
        have hB6 : Below w.heap.size w w6 := hB5.trans (hO6.below hB5.size (fun b hb q => q (hup b hb)))
        have lt6 : ∀ b, A2 b → b < w6.heap.size := fun b hb => Nat.lt_of_lt_of_le (lt5 b hb) hO6.size
        clear hO6 hT5 hJ5 hB hlt2 lt5 hB5
        have hAl := hAl0
        clear hAl0
        obtain ⟨M, rfl⟩ : ∃ N, N = M2 := ⟨_, rfl⟩
        obtain ⟨wr, rfl⟩ : ∃ N, N = w6 := ⟨_, rfl⟩
        have hT := hT6
        have hB := hB6
        have hlt2 := lt6
        clear hT6 hB6 lt6
        have hAq : A2 q := h2q
        have hle := lay_end hAl.out hzo hzy q p
        have hEL : Hid (layM M ⟨q, p, 0, 1, 0⟩ ys = layM M ⟨q, p, 0, 1, 0⟩ (zR new)) := hide (layM_zs M _ (by rw [hnew.out, zR_zs]))
        have cY := jlay_any ⟨q, p, 0, 1, 0⟩ M A2 al cl ys wr hJ ⟨by simp, by simp, by simp, by simp⟩ hT hlt2 hAq (HOR.out.below hB) (by unfold maxLen; omega)
          (by
            rcases HOR.out with z | ⟨bb, off, z1, z2, z3⟩
            · exact .inl z
            · exact .inr (fun x hx => by rw [z1] at hx; cases hx; exact ⟨hup bb z2, by show bb ≠ q; omega⟩))
          (fun r hr => ⟨(HRy.out.below' hB).rows r hr, by
            rcases (HRy.out.rows r hr).2.2 with z | ⟨bb, off, z1, z2, z3⟩
            · exact .inl z
            · exact .inr (fun x hx => by rw [z1] at hx; cases hx; exact hup bb z2)⟩)
        rw [hEL.out] at cY
        unfold jptr at cY
        simp only at cY
        clear hEL
        generalize layM M ⟨q, p, 0, 1, 0⟩ (zR new) = LL at *
        obtain ⟨Le, LM, Lj⟩ := LL
        simp only at cY hle
        obtain ⟨M', rfl, hcase⟩ := hle
        have HC := hide hcase
        clear hcase hAl
        have key : ∃ laid : Bool, Hid (Le = (if laid then 0 else 150) ∧ Laid (LM.fail keep).2 old new kk laid) := by
          rcases HC.out with ⟨h1, h2⟩ | ⟨h1, h2⟩
          · exact ⟨true, hide ⟨h1, h2⟩⟩
          · exact ⟨false, hide ⟨h1, h2⟩⟩
        clear HC
        obtain ⟨laid, hlaid⟩ := key
        obtain ⟨hLe, hLd⟩ := hlaid.out
        obtain ⟨bz, t, Z, x, sx', y, sy, hS, ht1, ht2, hZ⟩ := hLd
        have HZ := hide hZ
        have hZb : Bz Z := by
          rcases hZ with z | ⟨-, r, -, -, z⟩
          · rw [z]; exact hzy
          · rw [z]; exact hzo.take r
        rw [hLe] at cY
        clear hlaid hLe hZ
        have hBq : ∀ {wx : World}, Off (fun b => b = q ∨ ¬ A2 b) wr wx → Below w.heap.size w wx := fun ho => hB.trans (ho.below hB.size (fun b hb q1 => by
          rcases q1 with q1 | q1
          · omega
          · exact q1 (hup b hb)))
        obtain ⟨N, hN⟩ : ∃ N, Hid ((LM.fail keep).2 = N) := ⟨_, hide rfl⟩
        obtain ⟨fe, hfe⟩ : ∃ fe, Hid ((LM.fail keep).1 = fe) := ⟨_, hide rfl⟩
        rw [hN.out] at hS
        obtain ⟨hf1, M1, hop1, -⟩ := open_std hS hZb ht1 (by omega)
        have HOP := hide (And.intro hop1 hf1)
        have hrm : Hid (N.room = 1048576) := hide hS.st.room
        clear hS hop1 hf1 hJ hT
        cases laid with
        | true =>
          simp only [if_true] at cY
          go_wp2_with fail
          refine cY.mono ?_
          rintro e w5 ⟨rfl, hT5, -, hO5⟩
          clear cY
          have hB5 := hBq hO5
          have lt5 : ∀ b, A2 b → b < w5.heap.size := fun b hb => Nat.lt_of_lt_of_le (hlt2 b hb) hO5.size
          clear hO5 hBq
          have cF := live_fail hT5 lt5 keep
          rw [hN.out, hfe.out] at cF
          go_wp2_with fail
          refine cF.mono ?_
          rintro e w6 ⟨rfl, hT6, hO6⟩
          clear cF
          have hB6 : Below w.heap.size w w6 := hB5.trans (hO6.below hB5.size (fun b hb q => q (hup b hb)))
          have lt6 : ∀ b, A2 b → b < w6.heap.size := fun b hb => Nat.lt_of_lt_of_le (lt5 b hb) hO6.size
          clear hO6 hT5 lt5
          have cP := live_power hT6 lt6
          go_wp2_with fail
          refine cP.mono ?_
          rintro e w7 ⟨rfl, hT7, hO7⟩
          clear cP
          have hB7 : Below w.heap.size w w7 := hB6.trans (hO7.below hB6.size (fun b hb q => q (hup b hb)))
          have lt7 : ∀ b, A2 b → b < w7.heap.size := fun b hb => Nat.lt_of_lt_of_le (lt6 b hb) hO7.size
          clear hO7 hT6 lt6
          have cO := open_on p _ A2 w7 hT7 lt7 rfl (by show N.room ≤ _; rw [hrm.out]; omega)
          simp only [HOP.out.1, HOP.out.2] at cO
          clear hT7
          go_wp2_with fail
          refine cO.mono ?_
          rintro e w8 ⟨q8, A8, hOp⟩
          clear cO
          obtain ⟨-, -, -, -, h8off, -, -, hsaid⟩ := hOp
          simp only at hsaid
          rcases hsaid with ⟨h, -⟩ | ⟨-, -, v8', rs8, rfl, hW8, hzs8, hrl8, -, -⟩
          · exact absurd rfl h
          have hB8 : Below w.heap.size w w8 := hB7.trans (h8off.below hB7.size (fun b hb q => q (hup b hb)))
          clear h8off HOP
          obtain ⟨ra8, rc8, rfl, hR8, -, -⟩ := hW8.recs hrl8
          have hZn : Z = new := by
            rcases HZ.out with z | ⟨z, -⟩
            · exact z
            · cases z
          have cS := xsame_any ra8 al rc8 cl rs8 ys w8 hR8 (HRy.out.below' hB8) (by rw [hzs8, hZn, hnew.out])
          clear hW8 hR8
          go_wp2_with fail
          refine cS.mono ?_
          rintro e w9 ⟨rfl, hB9⟩
          clear cS
          have hB89 := hB8.trans (hB9.mono hB8.size)
          have cV := lives16_any w9
          go_wp2_with fail
          refine cV.mono ?_
          rintro e w11 ⟨rfl, hB11⟩
          clear cV
          go_wp2
          go_ret
          exact ⟨rfl, hB89.trans (hB11.mono hB89.size)⟩
        | false =>
          have if0 : (if false = true then (0 : Int) else 150) = 150 := rfl
          rw [if0] at cY
          go_wp2_with fail
          refine cY.mono ?_
          rintro e w5 ⟨rfl, hT5, -, hO5⟩
          clear cY
          have hB5 := hBq hO5
          have lt5 : ∀ b, A2 b → b < w5.heap.size := fun b hb => Nat.lt_of_lt_of_le (hlt2 b hb) hO5.size
          clear hO5 hBq
          have cF := live_fail hT5 lt5 keep
          rw [hN.out, hfe.out] at cF
          go_wp2_with fail
          refine cF.mono ?_
          rintro e w6 ⟨rfl, hT6, hO6⟩
          clear cF
          have hB6 : Below w.heap.size w w6 := hB5.trans (hO6.below hB5.size (fun b hb q => q (hup b hb)))
          have lt6 : ∀ b, A2 b → b < w6.heap.size := fun b hb => Nat.lt_of_lt_of_le (lt5 b hb) hO6.size
          clear hO6 hT5 lt5
          have cP := live_power hT6 lt6
          go_wp2_with fail
          refine cP.mono ?_
          rintro e w7 ⟨rfl, hT7, hO7⟩
          clear cP
          have hB7 : Below w.heap.size w w7 := hB6.trans (hO7.below hB6.size (fun b hb q => q (hup b hb)))
          have lt7 : ∀ b, A2 b → b < w7.heap.size := fun b hb => Nat.lt_of_lt_of_le (lt6 b hb) hO7.size
          clear hO7 hT6 lt6
          have cO := open_on p _ A2 w7 hT7 lt7 rfl (by show N.room ≤ _; rw [hrm.out]; omega)
          simp only [HOP.out.1, HOP.out.2] at cO
          clear hT7
          go_wp2_with fail
          refine cO.mono ?_
          rintro e w8 ⟨q8, A8, hOp⟩
          clear cO
          obtain ⟨-, -, -, -, h8off, -, -, hsaid⟩ := hOp
          simp only at hsaid
          rcases hsaid with ⟨h, -⟩ | ⟨-, -, v8', rs8, rfl, hW8, hzs8, hrl8, -, -⟩
          · exact absurd rfl h
          have hB8 : Below w.heap.size w w8 := hB7.trans (h8off.below hB7.size (fun b hb q => q (hup b hb)))
          clear h8off HOP
          obtain ⟨ra8, rc8, rfl, hR8, -, -⟩ := hW8.recs hrl8
          rcases HZ.out with hZn | ⟨-, r, hr1, hr2, hZr⟩
          · have cS := xsame_any ra8 al rc8 cl rs8 ys w8 hR8 (HRy.out.below' hB8) (by rw [hzs8, hZn, hnew.out])
            clear hW8 hR8
            go_wp2_with fail
            refine cS.mono ?_
            rintro e w9 ⟨rfl, hB9⟩
            clear cS
            have hB89 := hB8.trans (hB9.mono hB8.size)
            have cV := lives16_any w9
            go_wp2_with fail
            refine cV.mono ?_
            rintro e w11 ⟨rfl, hB11⟩
            clear cV
            go_wp2
            go_ret
            exact ⟨rfl, hB89.trans (hB11.mono hB89.size)⟩
          · have cS := xsame_gen ra8 al rc8 cl rs8 ys w8 hR8 (HRy.out.below' hB8)
            have hge : (kk : Int) ≤ (rs8.length : Int) := by
              have := congrArg List.length hzs8
              rw [List.length_map, hZr, List.length_take] at this
              omega
            have cG := fun w9 (h : Below w8.heap.size w8 w9) => begins_any ra8 _ rc8 oc rs8 os w9 (hR8.below' h) (HRo.out.below' (hB8.trans (h.mono hB8.size))) hco r (by rw [← hzl.out]; exact hr2) (by rw [hzs8, hZr, hold.out])
            clear hW8 hR8
            go_wp2_with fail
            refine cS.mono ?_
            rintro e w9 ⟨rfl | rfl, hB9⟩
            · clear cS cG
              have hB89 := hB8.trans (hB9.mono hB8.size)
              have cV := lives16_any w9
              go_wp2_with fail
              refine cV.mono ?_
              rintro e w11 ⟨rfl, hB11⟩
              clear cV
              go_wp2
              go_ret
              exact ⟨rfl, hB89.trans (hB11.mono hB89.size)⟩
            · clear cS
              have cG := cG w9 hB9
              go_wp2_with fail
              refine cG.mono ?_
              rintro e w10 ⟨rfl, hB10⟩
              clear cG
              have hB9a := hB8.trans (hB9.mono hB8.size)
              have hB89 := hB9a.trans (hB10.mono hB9a.size)
              have cV := lives16_any w10
              go_wp2_with fail
              refine cV.mono ?_
              rintro e w11 ⟨rfl, hB11⟩
              clear cV
              go_wp2
              go_ret
              exact ⟨rfl, hB89.trans (hB11.mono hB89.size)⟩
      · have hikI : ((kk : Int) == (os.length : Int)) = false := beq_eq_false_iff_ne.2 (by omega)
        obtain ⟨M2, he2, hA2'⟩ := alive_arm hM.out.1 n2
        have hsu := hM.out.2.2 (by omega)
        have hAl0 : Hid (Alive M2 keep old old.length kk sx) := hide (by rw [hzl.out, ← hsu]; exact hA2')
        have cA := live_arm hT hlt2 (n2 : Int) keep (by omega)
        rw [he2] at cA
        clear hM he2 hA2' hik hlt hsu
        go_wp2_with fail
        refine cA.mono ?_
        rintro e w6 ⟨rfl, hT6, hO6⟩
        clear cA
        have hJ' := hJ.at (hO6.2 q (hlt2 q h2q) (fun hh => hh h2q))
        have hB6 : Below w.heap.size w w6 := hB.trans (hO6.below hB.size (fun b hb q => q (hup b hb)))
        have lt6 : ∀ b, A2 b → b < w6.heap.size := fun b hb => Nat.lt_of_lt_of_le (hlt2 b hb) hO6.size
        clear hO6 hT hJ hB hlt2
        have hAl := hAl0
        clear hAl0
        obtain ⟨M, rfl⟩ : ∃ N, N = M2 := ⟨_, rfl⟩
        obtain ⟨wr, rfl⟩ : ∃ N, N = w6 := ⟨_, rfl⟩
        have hT := hT6
        have hB := hB6
        have hlt2 := lt6
        have hJ := hJ'
        clear hT6 hB6 lt6 hJ'
        have hAq : A2 q := h2q
        have hle := lay_end hAl.out hzo hzy q p
        have hEL : Hid (layM M ⟨q, p, 0, 1, 0⟩ ys = layM M ⟨q, p, 0, 1, 0⟩ (zR new)) := hide (layM_zs M _ (by rw [hnew.out, zR_zs]))
        have cY := jlay_any ⟨q, p, 0, 1, 0⟩ M A2 al cl ys wr hJ ⟨by simp, by simp, by simp, by simp⟩ hT hlt2 hAq (HOR.out.below hB) (by unfold maxLen; omega)
          (by
            rcases HOR.out with z | ⟨bb, off, z1, z2, z3⟩
            · exact .inl z
            · exact .inr (fun x hx => by rw [z1] at hx; cases hx; exact ⟨hup bb z2, by show bb ≠ q; omega⟩))
          (fun r hr => ⟨(HRy.out.below' hB).rows r hr, by
            rcases (HRy.out.rows r hr).2.2 with z | ⟨bb, off, z1, z2, z3⟩
            · exact .inl z
            · exact .inr (fun x hx => by rw [z1] at hx; cases hx; exact hup bb z2)⟩)
        rw [hEL.out] at cY
        unfold jptr at cY
        simp only at cY
        clear hEL
        generalize layM M ⟨q, p, 0, 1, 0⟩ (zR new) = LL at *
        obtain ⟨Le, LM, Lj⟩ := LL
        simp only at cY hle
        obtain ⟨M', rfl, hcase⟩ := hle
        have HC := hide hcase
        clear hcase hAl
        have key : ∃ laid : Bool, Hid (Le = (if laid then 0 else 150) ∧ Laid (LM.fail keep).2 old new kk laid) := by
          rcases HC.out with ⟨h1, h2⟩ | ⟨h1, h2⟩
          · exact ⟨true, hide ⟨h1, h2⟩⟩
          · exact ⟨false, hide ⟨h1, h2⟩⟩
        clear HC
        obtain ⟨laid, hlaid⟩ := key
        obtain ⟨hLe, hLd⟩ := hlaid.out
        obtain ⟨bz, t, Z, x, sx', y, sy, hS, ht1, ht2, hZ⟩ := hLd
        have HZ := hide hZ
        have hZb : Bz Z := by
          rcases hZ with z | ⟨-, r, -, -, z⟩
          · rw [z]; exact hzy
          · rw [z]; exact hzo.take r
        rw [hLe] at cY
        clear hlaid hLe hZ
        have hBq : ∀ {wx : World}, Off (fun b => b = q ∨ ¬ A2 b) wr wx → Below w.heap.size w wx := fun ho => hB.trans (ho.below hB.size (fun b hb q1 => by
          rcases q1 with q1 | q1
          · omega
          · exact q1 (hup b hb)))
        obtain ⟨N, hN⟩ : ∃ N, Hid ((LM.fail keep).2 = N) := ⟨_, hide rfl⟩
        obtain ⟨fe, hfe⟩ : ∃ fe, Hid ((LM.fail keep).1 = fe) := ⟨_, hide rfl⟩
        rw [hN.out] at hS
        obtain ⟨hf1, M1, hop1, -⟩ := open_std hS hZb ht1 (by omega)
        have HOP := hide (And.intro hop1 hf1)
        have hrm : Hid (N.room = 1048576) := hide hS.st.room
        clear hS hop1 hf1 hJ hT
        cases laid with
        | true =>
          simp only [if_true] at cY
          go_wp2_with fail
          refine cY.mono ?_
          rintro e w5 ⟨rfl, hT5, -, hO5⟩
          clear cY
          have hB5 := hBq hO5
          have lt5 : ∀ b, A2 b → b < w5.heap.size := fun b hb => Nat.lt_of_lt_of_le (hlt2 b hb) hO5.size
          clear hO5 hBq
          have cF := live_fail hT5 lt5 keep
          rw [hN.out, hfe.out] at cF
          go_wp2_with fail
          refine cF.mono ?_
          rintro e w6 ⟨rfl, hT6, hO6⟩
          clear cF
          have hB6 : Below w.heap.size w w6 := hB5.trans (hO6.below hB5.size (fun b hb q => q (hup b hb)))
          have lt6 : ∀ b, A2 b → b < w6.heap.size := fun b hb => Nat.lt_of_lt_of_le (lt5 b hb) hO6.size
          clear hO6 hT5 lt5
          have cP := live_power hT6 lt6
          go_wp2_with fail
          refine cP.mono ?_
          rintro e w7 ⟨rfl, hT7, hO7⟩
          clear cP
          have hB7 : Below w.heap.size w w7 := hB6.trans (hO7.below hB6.size (fun b hb q => q (hup b hb)))
          have lt7 : ∀ b, A2 b → b < w7.heap.size := fun b hb => Nat.lt_of_lt_of_le (lt6 b hb) hO7.size
          clear hO7 hT6 lt6
          have cO := open_on p _ A2 w7 hT7 lt7 rfl (by show N.room ≤ _; rw [hrm.out]; omega)
          simp only [HOP.out.1, HOP.out.2] at cO
          clear hT7
          go_wp2_with fail
          refine cO.mono ?_
          rintro e w8 ⟨q8, A8, hOp⟩
          clear cO
          obtain ⟨-, -, -, -, h8off, -, -, hsaid⟩ := hOp
          simp only at hsaid
          rcases hsaid with ⟨h, -⟩ | ⟨-, -, v8', rs8, rfl, hW8, hzs8, hrl8, -, -⟩
          · exact absurd rfl h
          have hB8 : Below w.heap.size w w8 := hB7.trans (h8off.below hB7.size (fun b hb q => q (hup b hb)))
          clear h8off HOP
          obtain ⟨ra8, rc8, rfl, hR8, -, -⟩ := hW8.recs hrl8
          have hZn : Z = new := by
            rcases HZ.out with z | ⟨z, -⟩
            · exact z
            · cases z
          have cS := xsame_any ra8 al rc8 cl rs8 ys w8 hR8 (HRy.out.below' hB8) (by rw [hzs8, hZn, hnew.out])
          clear hW8 hR8
          go_wp2_with fail
          refine cS.mono ?_
          rintro e w9 ⟨rfl, hB9⟩
          clear cS
          have hB89 := hB8.trans (hB9.mono hB8.size)
          have cV := lives16_any w9
          go_wp2_with fail
          refine cV.mono ?_
          rintro e w11 ⟨rfl, hB11⟩
          clear cV
          go_wp2
          go_ret
          exact ⟨rfl, hB89.trans (hB11.mono hB89.size)⟩
        | false =>
          have if0 : (if false = true then (0 : Int) else 150) = 150 := rfl
          rw [if0] at cY
          go_wp2_with fail
          refine cY.mono ?_
          rintro e w5 ⟨rfl, hT5, -, hO5⟩
          clear cY
          have hB5 := hBq hO5
          have lt5 : ∀ b, A2 b → b < w5.heap.size := fun b hb => Nat.lt_of_lt_of_le (hlt2 b hb) hO5.size
          clear hO5 hBq
          have cF := live_fail hT5 lt5 keep
          rw [hN.out, hfe.out] at cF
          go_wp2_with fail
          refine cF.mono ?_
          rintro e w6 ⟨rfl, hT6, hO6⟩
          clear cF
          have hB6 : Below w.heap.size w w6 := hB5.trans (hO6.below hB5.size (fun b hb q => q (hup b hb)))
          have lt6 : ∀ b, A2 b → b < w6.heap.size := fun b hb => Nat.lt_of_lt_of_le (lt5 b hb) hO6.size
          clear hO6 hT5 lt5
          have cP := live_power hT6 lt6
          go_wp2_with fail
          refine cP.mono ?_
          rintro e w7 ⟨rfl, hT7, hO7⟩
          clear cP
          have hB7 : Below w.heap.size w w7 := hB6.trans (hO7.below hB6.size (fun b hb q => q (hup b hb)))
          have lt7 : ∀ b, A2 b → b < w7.heap.size := fun b hb => Nat.lt_of_lt_of_le (lt6 b hb) hO7.size
          clear hO7 hT6 lt6
          have cO := open_on p _ A2 w7 hT7 lt7 rfl (by show N.room ≤ _; rw [hrm.out]; omega)
          simp only [HOP.out.1, HOP.out.2] at cO
          clear hT7
          go_wp2_with fail
          refine cO.mono ?_
          rintro e w8 ⟨q8, A8, hOp⟩
          clear cO
          obtain ⟨-, -, -, -, h8off, -, -, hsaid⟩ := hOp
          simp only at hsaid
          rcases hsaid with ⟨h, -⟩ | ⟨-, -, v8', rs8, rfl, hW8, hzs8, hrl8, -, -⟩
          · exact absurd rfl h
          have hB8 : Below w.heap.size w w8 := hB7.trans (h8off.below hB7.size (fun b hb q => q (hup b hb)))
          clear h8off HOP
          obtain ⟨ra8, rc8, rfl, hR8, -, -⟩ := hW8.recs hrl8
          rcases HZ.out with hZn | ⟨-, r, hr1, hr2, hZr⟩
          · have cS := xsame_any ra8 al rc8 cl rs8 ys w8 hR8 (HRy.out.below' hB8) (by rw [hzs8, hZn, hnew.out])
            clear hW8 hR8
            go_wp2_with fail
            refine cS.mono ?_
            rintro e w9 ⟨rfl, hB9⟩
            clear cS
            have hB89 := hB8.trans (hB9.mono hB8.size)
            have cV := lives16_any w9
            go_wp2_with fail
            refine cV.mono ?_
            rintro e w11 ⟨rfl, hB11⟩
            clear cV
            go_wp2
            go_ret
            exact ⟨rfl, hB89.trans (hB11.mono hB89.size)⟩
          · have cS := xsame_gen ra8 al rc8 cl rs8 ys w8 hR8 (HRy.out.below' hB8)
            have hge : (kk : Int) ≤ (rs8.length : Int) := by
              have := congrArg List.length hzs8
              rw [List.length_map, hZr, List.length_take] at this
              omega
            have cG := fun w9 (h : Below w8.heap.size w8 w9) => begins_any ra8 _ rc8 oc rs8 os w9 (hR8.below' h) (HRo.out.below' (hB8.trans (h.mono hB8.size))) hco r (by rw [← hzl.out]; exact hr2) (by rw [hzs8, hZr, hold.out])
            clear hW8 hR8
            go_wp2_with fail
            refine cS.mono ?_
            rintro e w9 ⟨rfl | rfl, hB9⟩
            · clear cS cG
              have hB89 := hB8.trans (hB9.mono hB8.size)
              have cV := lives16_any w9
              go_wp2_with fail
              refine cV.mono ?_
              rintro e w11 ⟨rfl, hB11⟩
              clear cV
              go_wp2
              go_ret
              exact ⟨rfl, hB89.trans (hB11.mono hB89.size)⟩
            · clear cS
              have cG := cG w9 hB9
              go_wp2_with fail
              refine cG.mono ?_
              rintro e w10 ⟨rfl, hB10⟩
              clear cG
              have hB9a := hB8.trans (hB9.mono hB8.size)
              have hB89 := hB9a.trans (hB10.mono hB9a.size)
              have cV := lives16_any w10
              go_wp2_with fail
              refine cV.mono ?_
              rintro e w11 ⟨rfl, hB11⟩
              clear cV
              go_wp2
              go_ret
              exact ⟨rfl, hB89.trans (hB11.mono hB89.size)⟩
end Go.Proofs.Ytfkchnjbbbhmjab.Ty
namespace Go.Proofs.Ytfkchnjbbbhmjab.journalLays
open Go.ChangeShapes Go.WideShapes Go.ChangeAt Go.RowKit
open Go.ChangeMaps (open_string shut_string)
set_option linter.unusedVariables false
set_option maxRecDepth 100000 in
theorem lifted (os : Os) (started : os.Started) (H : Type) (enc : TypeId × Value → H) :
    ReturnsInHanded {} Try.checked os 4 .any (Rows.journalLaysSpec.pre6 enc Try.prog Try.f4 Rows.journalLaysRow.domain false) (Rows.journalLaysSpec.post enc Try.prog Try.f4 false true false false) := by
  refine returnsInHanded_of_change (C := Try.checked) own started (by kernel_rfl) Try.func4
    (ChangeSpec.witness6 (enc := enc) (C := Try.checked) false ⟨#[], #[.slice none 0 0, .slice none 0 0, .int .i64 0, .int .i64 0, .int .i64 0], []⟩ 8 (by kernel_rfl) (by kernel_rfl) (by kernel_rfl) (by kernel_rfl)) ?_
  intro W base args ds gs before hval0 hW hcnd _
  have hval : ∀ (j : Nat) t v, Try.f4.params[j]? = some t → args[j]? = some v → Value.okWide Try.prog W .any base t v := hval0
  have hW' := hW
  obtain ⟨p, q, hA0, hV, rfl, hfz, hnd⟩ := hW
  have hA : DataW.TrodAll enc Try.prog W 0 (fun _ => true) true Try.f4.params.toList args.toList ds p := hA0
  rw [Try.params4] at hA hval
  obtain ⟨v0, vs0, d0, ds0, p0, q0, hargs, rfl, rfl, h0, r0⟩ := trodAll_cons hA
  obtain ⟨v1, vs1, d1, ds1, p1, q1, rfl, rfl, rfl, h1, r1⟩ := trodAll_cons r0
  obtain ⟨v2, vs2, d2, ds2, p2, q2, rfl, rfl, rfl, h2, r2⟩ := trodAll_cons r1
  obtain ⟨v3, vs3, d3, ds3, p3, q3, rfl, rfl, rfl, h3, r3⟩ := trodAll_cons r2
  obtain ⟨v4, vs4, d4, ds4, p4, q4, rfl, rfl, rfl, h4, r4⟩ := trodAll_cons r3
  obtain ⟨rfl, rfl, rfl⟩ := trodAll_nil r4
  obtain rfl : args = #[v0, v1, v2, v3, v4] := by cases args; simp_all
  obtain ⟨rfl, rfl⟩ := trodVars_none hV
  have k0 := h0
  have lt0 : ∀ x ∈ p0, x.block < W.heap.size := by obtain ⟨m, hm⟩ := k0; exact DataW.trod_lt m _ _ _ hm
  obtain ⟨fuel0, hf0⟩ := h0
  obtain ⟨al0, cl0, ys0, rfl, le0, lm0, oks0, row0⟩ := open_parts (hval 0 22 v0 rfl rfl) hf0
  have k1 := h1
  have lt1 : ∀ x ∈ p1, x.block < W.heap.size := by obtain ⟨m, hm⟩ := k1; exact DataW.trod_lt m _ _ _ hm
  obtain ⟨fuel1, hf1⟩ := h1
  obtain ⟨al1, cl1, ys1, rfl, le1, lm1, oks1, row1⟩ := open_parts (hval 1 22 v1 rfl rfl) hf1
  have k2 := h2
  have lt2 : ∀ x ∈ p2, x.block < W.heap.size := by obtain ⟨m, hm⟩ := k2; exact DataW.trod_lt m _ _ _ hm
  obtain ⟨a2, rfl, rfl, rfl, w2⟩ := open_int Try.underlying3 (hval 2 3 v2 rfl rfl) h2
  have k3 := h3
  have lt3 : ∀ x ∈ p3, x.block < W.heap.size := by obtain ⟨m, hm⟩ := k3; exact DataW.trod_lt m _ _ _ hm
  obtain ⟨a3, rfl, rfl, rfl, w3⟩ := open_int Try.underlying3 (hval 3 3 v3 rfl rfl) h3
  have k4 := h4
  have lt4 : ∀ x ∈ p4, x.block < W.heap.size := by obtain ⟨m, hm⟩ := k4; exact DataW.trod_lt m _ _ _ hm
  obtain ⟨a4, rfl, rfl, rfl, w4⟩ := open_int Try.underlying3 (hval 4 3 v4 rfl rfl) h4
  clear hA0 hval0
  refine (Ty.lays_walk al0 cl0 ys0 al1 cl1 ys1 a2 a3 a4 le0 W oks0 row0 oks1 row1).mono fun e W' ⟨he, bel⟩ => ?_
  subst he
  exact ⟨_, rfl, _, _, _, [], _, [], hW', trodAll_mk1 (shut_bool Try.underlying4 _), (trodAll_cons_mk (Below.trod laidOut (by kernel_rfl) (of_decide_eq_true (by kernel_rfl)) k0 bel lt0) (trodAll_cons_mk (Below.trod laidOut (by kernel_rfl) (of_decide_eq_true (by kernel_rfl)) k1 bel lt1) (trodAll_cons_mk (Below.trod laidOut (by kernel_rfl) (of_decide_eq_true (by kernel_rfl)) k2 bel lt2) (trodAll_cons_mk (Below.trod laidOut (by kernel_rfl) (of_decide_eq_true (by kernel_rfl)) k3 bel lt3) (trodAll_cons_mk (Below.trod laidOut (by kernel_rfl) (of_decide_eq_true (by kernel_rfl)) k4 bel lt4) trodAll_mk0))))), rfl, bel.frame _, fun h => by cases h⟩
theorem over : Rows.journalLaysRow.holds Try.pinned (OpenSpec.ofChange Rows.journalLaysSpec) :=
  OpenClaim.holds_of_wide 4 Try.f4 rfl rfl rfl rfl rfl rfl rfl ⟨rfl, rfl, rfl, rfl, rfl⟩ rfl rfl rfl rfl rfl (by kernel_rfl) Try.func4 (by kernel_rfl)
    (of_decide_eq_true (by kernel_rfl)) (by unfold Func.isWrapper; first | (rw [if_pos (by decide +kernel)]; kernel_rfl) | (rw [if_neg (by decide +kernel)]; exact ⟨rfl, rfl⟩))
    (fun os started H enc _ => lifted os started H enc)
end Go.Proofs.Ytfkchnjbbbhmjab.journalLays
namespace Go.Proofs.Ytfkchnjbbbhmjab
theorem journalLays_holds : Rows.JournalLaysSaid := journalLays.over
#print axioms journalLays_holds
end Go.Proofs.Ytfkchnjbbbhmjab
