/- records: which are the same; records: what their kind has, and the message that they are told as (the document's); records: which may be, as the document says; it is what the program says; records: their bytes; records: read out of bytes -/
import Derived.Test.YtinndbipomlokaaGreatJB0
import Derived.Test.YtinndbipomlokaaGreatJB6
import Derived.Test.YtinndbipomlokaaGreatJB3
import Derived.Test.YtinndbipomlokaaGreatJB12
import Derived.Test.YtinndbipomlokaaGreatJB10
import Derived.Test.YtinndbipomlokaaGreatJB5
import Derived.Deep.Cut
import Derived.Deep.DeepCutAuto
import Derived.Test.YtinndbipomlokaaGreatJB2
namespace Go.Proofs.YtinndbipomlokaaGreat
open Go.RowKit
open Sha Tal
set_option linter.unusedVariables false
set_option linter.unusedSimpArgs false
structure Rp where
  k : Int
  l : Int
  v : Int
  s : Int
  q : Bool
  rs : List Rq
  ct : Vt
  cs : List Sg
  st : ByteArray
  sg : List Sg
def Rc.pure (r : Rc) : Rp := ⟨r.k, r.l, r.v, r.s, r.q, r.rs.xs, r.ct, r.cs.xs, r.st, r.sg.xs⟩
def Rp.mp (r : Rp) (k v : Int) : Mp := ⟨k, 0, r.l, v, r.s, r.q, r.rs, Vt.zero, 0, 0, 0, [], [], zeros32, r.ct, r.cs, r.st, r.sg⟩
theorem Rc.whole_pure (r : Rc) : r.whole.pure = r.pure.mp r.k r.v := rfl
def Rc.B (a b : Rc) : Bool := (a.k == b.k) && ((a.l == b.l) && ((a.v == b.v) && ((a.s == b.s) && ((a.st.toList == b.st.toList) && (batB a.q a.rs b.q b.rs && (certB a.ct a.cs b.ct b.cs && sameL Sg.B a.sg.xs b.sg.xs))))))
theorem Rc.B_whole (a b : Rc) : Mg.B a.whole b.whole = Rc.B a b := by
 have hv : vtB Vt.zero Vt.zero = true := vtB_iff.2 rfl
 have hh : sameL Hd.B ([] : List Hd) [] = true := rfl
 have he : sameL Ev.B ([] : List Ev) [] = true := rfl
 unfold Rc.B Mg.B Mg.nB Mg.fB Mg.lB chgB Rc.whole
 simp only [hv, hh, he, beq_self_eq_true, Bool.true_and]
 ac_rfl
theorem Rc.B_pure {a b : Rc} (h : Rc.B a b = true) : a.pure = b.pure := by
 rw [← Rc.B_whole] at h
 have e := Mg.B_pure _ _ h
 rw [Rc.whole_pure, Rc.whole_pure] at e
 unfold Rp.mp Rc.pure at e
 simp only [Mp.mk.injEq, true_and] at e
 unfold Rc.pure
 simp only [Rp.mk.injEq]
 obtain ⟨e1, e2, e3, e4, e5, e6, e7, e8, e9, e10⟩ := e
 exact ⟨e1, e2, e3, e4, e5, e6, e7, e8, e9, e10⟩
theorem Rc.B_eqv {a b : Rc} (h : a.pure = b.pure) : Rc.B a b = true := by
 rw [← Rc.B_whole]
 refine Mg.B_eqv _ _ ?_
 have hk : a.k = b.k := congrArg Rp.k h
 have hv : a.v = b.v := congrArg Rp.v h
 rw [Rc.whole_pure, Rc.whole_pure, h, hk, hv]
set_option maxRecDepth 100000 in
set_option maxHeartbeats 1000000 in
theorem xksame_any (a b : Rc) (w : World) (oa : a.ct.ok) (ob : b.ct.ok) (ha : a.At w) (hb : b.At w) : Calls Tryz.prog 14 #[.agg a.cells.toArray, .agg b.cells.toArray] w fun e w' => e = .returned (.bool (Rc.B a b)) ∧ Below w.heap.size w w' := by
 obtain ⟨hA, hA', hB, hs⟩ := two_boxG a.cells b.cells 33 w
 have ia : (Tryz.prog.info? 33).map (·.size) = some a.cells.length := by rw [Rc.len oa]; exact iszRc
 have ib : (Tryz.prog.info? 33).map (·.size) = some b.cells.length := by rw [Rc.len ob]; exact iszRc
 have ic : (Tryz.prog.info? 31).map (·.size) = some (certL a.ct a.cs).length := by rw [cert_len oa]; exact iszCe
 have ic2 : (Tryz.prog.info? 31).map (·.size) = some (certL b.ct b.cs).length := by rw [cert_len ob]; exact iszCe
 obtain ⟨W, hW⟩ : ∃ W, Hid ((w.alloc (.cells a.cells.toArray 33)).alloc (.cells b.cells.toArray 33) = W) := ⟨_, hide rfl⟩
 rw [hW.out] at hA hA' hB hs
 obtain ⟨arb, arc, a43, a44⟩ := rc_parts oa hA
 obtain ⟨brb, brc, b43, b44⟩ := rc_parts ob hA'
 have a0 : W.cell? ⟨w.heap.size, 0, none⟩ = some (.int .i64 a.k) := hA 0 _ rfl
 have a1 : W.cell? ⟨w.heap.size, 1, none⟩ = some (.int .i64 a.l) := hA 1 _ rfl
 have a2 : W.cell? ⟨w.heap.size, 2, none⟩ = some (.int .i64 a.v) := hA 2 _ rfl
 have a3 : W.cell? ⟨w.heap.size, 3, none⟩ = some (.int .i64 a.s) := hA 3 _ rfl
 have b0 : W.cell? ⟨w.heap.size + 1, 0, none⟩ = some (.int .i64 b.k) := hA' 0 _ rfl
 have b1 : W.cell? ⟨w.heap.size + 1, 1, none⟩ = some (.int .i64 b.l) := hA' 1 _ rfl
 have b2 : W.cell? ⟨w.heap.size + 1, 2, none⟩ = some (.int .i64 b.v) := hA' 2 _ rfl
 have b3 : W.cell? ⟨w.heap.size + 1, 3, none⟩ = some (.int .i64 b.s) := hA' 3 _ rfl
 have gB := xbsame_any a.q a.rs b.q b.rs W (ha.rs.below hB) (hb.rs.below hB)
 have gC := fun w0 (h0 : Below W.heap.size W w0) => xscert_any a.ct b.ct a.cs b.cs w0 oa ob (ha.cs.below (hB.trans (h0.mono hB.size))) (hb.cs.below (hB.trans (h0.mono hB.size)))
 have gS := fun w0 (h0 : Below W.heap.size W w0) => xequalS_anyB a.sg.a a.sg.cap a.sg.xs b.sg.a b.sg.cap b.sg.xs w0 (ha.sg.below (hB.trans (h0.mono hB.size))) (hb.sg.below (hB.trans (h0.mono hB.size)))
 have sC : w.heap.size + 1 < W.heap.size := hs
 have sA : w.heap.size < W.heap.size := Nat.lt_of_succ_lt sC
 obtain ⟨G, HG⟩ : ∃ G, Hid (Rc.B a b = G) := ⟨_, hide rfl⟩
 rw [HG.out]
 unfold Rc.B at HG
 obtain ⟨b5, hb5⟩ : ∃ q, batB a.q a.rs b.q b.rs = q := ⟨_, rfl⟩
 obtain ⟨b6, hb6⟩ : ∃ q, certB a.ct a.cs b.ct b.cs = q := ⟨_, rfl⟩
 obtain ⟨b7, hb7⟩ : ∃ q, sameL Sg.B a.sg.xs b.sg.xs = q := ⟨_, rfl⟩
 rw [hb5, hb6, hb7] at HG
 simp only [hb5] at gB
 simp only [hb6] at gC
 simp only [hb7] at gS
 obtain ⟨p0, hp0⟩ : ∃ p, Hid ((!(a.k == b.k)) = p) := ⟨_, hide rfl⟩
 obtain ⟨p1, hp1⟩ : ∃ p, Hid ((!(a.l == b.l)) = p) := ⟨_, hide rfl⟩
 obtain ⟨p2, hp2⟩ : ∃ p, Hid ((!(a.v == b.v)) = p) := ⟨_, hide rfl⟩
 obtain ⟨p3, hp3⟩ : ∃ p, Hid ((!(a.s == b.s)) = p) := ⟨_, hide rfl⟩
 obtain ⟨p4, hp4⟩ : ∃ p, Hid ((!(a.st.toList == b.st.toList)) = p) := ⟨_, hide rfl⟩
 replace HG : Hid (((!p0) && ((!p1) && ((!p2) && ((!p3) && ((!p4) && (b5 && (b6 && b7))))))) = G) := hide (by
  rw [← HG.out, ← hp0.out, ← hp1.out, ← hp2.out, ← hp3.out, ← hp4.out]
  simp only [Bool.not_not])
 clear hA hA' hs ha hb oa ob hb5 hb6 hb7
 have HS : Below W.heap.size W W := Below.refl _ _
 go_enter Tryz.func14, Tryz.ntmps14
 go_upto_region 1 with fail
 rw [hW.out]
 clear hW
 try simp only [Act.put]
 refine pl_begin ?_
 refine pl_t 5 (?_) (by rfl) ?_ rfl ?_
 rotate_left
 ·go_simp
  try with_reducible rfl
 simp only [nz]
 refine pl_t 6 (.int .i64 a.k) (by rfl) (pl_one rfl rfl a0 Tryz.underlying3 rfl) rfl ?_
 simp only [nz]
 refine pl_t 7 (?_) (by rfl) ?_ rfl ?_
 rotate_left
 ·go_simp
  try with_reducible rfl
 simp only [nz]
 refine pl_t 8 (.int .i64 b.k) (by rfl) (pl_one rfl rfl b0 Tryz.underlying3 rfl) rfl ?_
 simp only [nz]
 refine pl_t 9 (.bool p0) (by rfl) (by have q := hp0.out; cases p0 <;> simp at q <;> go_simp <;> simp [q]) rfl ?_
 simp only [nz]
 cases p0
 ·refine pl_t 10 (?_) (by rfl) ?_ rfl ?_
  rotate_left
  ·go_simp
   try with_reducible rfl
  simp only [nz]
  refine pl_t 11 (?_) (by rfl) ?_ rfl ?_
  rotate_left
  ·go_simp
   try with_reducible rfl
  simp only [nz]
  refine pl_t 12 (.int .i64 a.l) (by rfl) (pl_one rfl rfl a1 Tryz.underlying3 rfl) rfl ?_
  simp only [nz]
  refine pl_t 13 (?_) (by rfl) ?_ rfl ?_
  rotate_left
  ·go_simp
   try with_reducible rfl
  simp only [nz]
  refine pl_t 14 (.int .i64 b.l) (by rfl) (pl_one rfl rfl b1 Tryz.underlying3 rfl) rfl ?_
  simp only [nz]
  refine pl_t 15 (.bool p1) (by rfl) (by have q := hp1.out; cases p1 <;> simp at q <;> go_simp <;> simp [q]) rfl ?_
  simp only [nz]
  cases p1
  ·refine pl_t 16 (?_) (by rfl) ?_ rfl ?_
   rotate_left
   ·go_simp
    try with_reducible rfl
   simp only [nz]
   refine pl_t 17 (?_) (by rfl) ?_ rfl ?_
   rotate_left
   ·go_simp
    try with_reducible rfl
   simp only [nz]
   refine pl_t 18 (?_) (by rfl) ?_ rfl ?_
   rotate_left
   ·go_simp
    try with_reducible rfl
   simp only [nz]
   refine pl_t 19 (.int .i64 a.v) (by rfl) (pl_one rfl rfl a2 Tryz.underlying3 rfl) rfl ?_
   simp only [nz]
   refine pl_t 20 (?_) (by rfl) ?_ rfl ?_
   rotate_left
   ·go_simp
    try with_reducible rfl
   simp only [nz]
   refine pl_t 21 (.int .i64 b.v) (by rfl) (pl_one rfl rfl b2 Tryz.underlying3 rfl) rfl ?_
   simp only [nz]
   refine pl_t 22 (.bool p2) (by rfl) (by have q := hp2.out; cases p2 <;> simp at q <;> go_simp <;> simp [q]) rfl ?_
   simp only [nz]
   cases p2
   ·refine pl_t 23 (?_) (by rfl) ?_ rfl ?_
    rotate_left
    ·go_simp
     try with_reducible rfl
    simp only [nz]
    refine pl_t 24 (?_) (by rfl) ?_ rfl ?_
    rotate_left
    ·go_simp
     try with_reducible rfl
    simp only [nz]
    refine pl_t 25 (?_) (by rfl) ?_ rfl ?_
    rotate_left
    ·go_simp
     try with_reducible rfl
    simp only [nz]
    refine pl_t 26 (.int .i64 a.s) (by rfl) (pl_one rfl rfl a3 Tryz.underlying3 rfl) rfl ?_
    simp only [nz]
    refine pl_t 27 (?_) (by rfl) ?_ rfl ?_
    rotate_left
    ·go_simp
     try with_reducible rfl
    simp only [nz]
    refine pl_t 28 (.int .i64 b.s) (by rfl) (pl_one rfl rfl b3 Tryz.underlying3 rfl) rfl ?_
    simp only [nz]
    refine pl_t 29 (.bool p3) (by rfl) (by have q := hp3.out; cases p3 <;> simp at q <;> go_simp <;> simp [q]) rfl ?_
    simp only [nz]
    cases p3
    ·refine pl_t 30 (?_) (by rfl) ?_ rfl ?_
     rotate_left
     ·go_simp
      try with_reducible rfl
     simp only [nz]
     refine pl_t 31 (?_) (by rfl) ?_ rfl ?_
     rotate_left
     ·go_simp
      try with_reducible rfl
     simp only [nz]
     refine pl_t 32 (?_) (by rfl) ?_ rfl ?_
     rotate_left
     ·go_simp
      try with_reducible rfl
     simp only [nz]
     refine pl_t 33 (.string a.st) (by rfl) (pl_one rfl rfl a43 Tryz.underlying9 rfl) rfl ?_
     simp only [nz]
     refine pl_t 34 (?_) (by rfl) ?_ rfl ?_
     rotate_left
     ·go_simp
      try with_reducible rfl
     simp only [nz]
     refine pl_t 35 (.string b.st) (by rfl) (pl_one rfl rfl b43 Tryz.underlying9 rfl) rfl ?_
     simp only [nz]
     refine pl_t 36 (.bool p4) (by rfl) (by have q := hp4.out; cases p4 <;> simp at q <;> go_simp <;> simp [q]) rfl ?_
     simp only [nz]
     cases p4
     ·refine pl_t 37 (?_) (by rfl) ?_ rfl ?_
      rotate_left
      ·go_simp
       try with_reducible rfl
      simp only [nz]
      refine pl_nil ?_
      go_upto_region 3 with fail
      try simp only [Act.put]
      refine pl_begin ?_
      refine pl_t 38 (?_) (by rfl) ?_ rfl ?_
      rotate_left
      ·go_simp
       try with_reducible rfl
      simp only [nz]
      refine pl_t 39 (.agg #[.bool a.q, a.rs.val]) (by rfl) (ex_mid rfl rfl arb Tryz.underlying24 rfl iszBa) rfl ?_
      simp only [nz]
      refine pl_t 40 (?_) (by rfl) ?_ rfl ?_
      rotate_left
      ·go_simp
       try with_reducible rfl
      simp only [nz]
      refine pl_t 41 (.agg #[.bool b.q, b.rs.val]) (by rfl) (ex_mid rfl rfl brb Tryz.underlying24 rfl iszBa) rfl ?_
      simp only [nz]
      refine pl_call (d := some 42) (by rfl) (by go_simp; first | done | exact ⟨rfl, rfl⟩ | with_reducible rfl) rfl ?_
      refine (gB).mono ?_
      rintro _ w9 ⟨rfl, hb9⟩
      replace HS := HS.trans (hb9.mono HS.size)
      clear hb9
      refine ⟨_, rfl, ?_⟩
      simp only [nz]
      cases b5
      ·refine pl_t 43 (?_) (by rfl) ?_ rfl ?_
       rotate_left
       ·go_simp
        try with_reducible rfl
       simp only [nz]
       refine pl_skip (d := some 44) (by rfl) rfl ?_
       simp only [nz]
       refine pl_skip (d := some 45) (by rfl) rfl ?_
       simp only [nz]
       refine pl_skip (d := some 46) (by rfl) rfl ?_
       simp only [nz]
       refine pl_skip (d := some 47) (by rfl) rfl ?_
       simp only [nz]
       refine pl_skip (d := some 48) (by rfl) rfl ?_
       simp only [nz]
       refine pl_t 49 (?_) (by rfl) ?_ rfl ?_
       rotate_left
       ·go_simp
        try with_reducible rfl
       simp only [nz]
       refine pl_t 50 (?_) (by rfl) ?_ rfl ?_
       rotate_left
       ·go_simp
        try with_reducible rfl
       simp only [nz]
       refine pl_skip (d := some 51) (by rfl) rfl ?_
       simp only [nz]
       refine pl_skip (d := some 52) (by rfl) rfl ?_
       simp only [nz]
       refine pl_skip (d := some 53) (by rfl) rfl ?_
       simp only [nz]
       refine pl_skip (d := some 54) (by rfl) rfl ?_
       simp only [nz]
       refine pl_skip (d := some 55) (by rfl) rfl ?_
       simp only [nz]
       refine pl_t 56 (?_) (by rfl) ?_ rfl ?_
       rotate_left
       ·go_simp
        try with_reducible rfl
       simp only [nz]
       refine pl_t 4 (?_) (by rfl) ?_ rfl ?_
       rotate_left
       ·go_simp
        try with_reducible rfl
       simp only [nz]
       refine pl_nil ?_
       go_wp2_with fail
       go_ret
       exact ⟨by have := HG.out; simp at this; subst this; rfl, hB.trans (HS.mono hB.size)⟩
      ·refine pl_t 43 (?_) (by rfl) ?_ rfl ?_
       rotate_left
       ·go_simp
        try with_reducible rfl
       simp only [nz]
       refine pl_t 44 (?_) (by rfl) ?_ rfl ?_
       rotate_left
       ·go_simp
        try with_reducible rfl
       simp only [nz]
       refine pl_t 45 (.agg (certL a.ct a.cs).toArray) (by rfl) (ex_mid rfl rfl (range_below arc HS sA) Tryz.underlying31 rfl ic) rfl ?_
       simp only [nz]
       refine pl_t 46 (?_) (by rfl) ?_ rfl ?_
       rotate_left
       ·go_simp
        try with_reducible rfl
       simp only [nz]
       refine pl_t 47 (.agg (certL b.ct b.cs).toArray) (by rfl) (ex_mid rfl rfl (range_below brc HS sC) Tryz.underlying31 rfl ic2) rfl ?_
       simp only [nz]
       refine pl_call (d := some 48) (by rfl) (by go_simp; first | done | exact ⟨rfl, rfl⟩ | with_reducible rfl) rfl ?_
       refine (gC w9 HS).mono ?_
       rintro _ w10 ⟨rfl, hb9⟩
       replace HS := HS.trans (hb9.mono HS.size)
       clear hb9
       refine ⟨_, rfl, ?_⟩
       simp only [nz]
       cases b6
       ·refine pl_t 49 (?_) (by rfl) ?_ rfl ?_
        rotate_left
        ·go_simp
         try with_reducible rfl
        simp only [nz]
        refine pl_t 50 (?_) (by rfl) ?_ rfl ?_
        rotate_left
        ·go_simp
         try with_reducible rfl
        simp only [nz]
        refine pl_skip (d := some 51) (by rfl) rfl ?_
        simp only [nz]
        refine pl_skip (d := some 52) (by rfl) rfl ?_
        simp only [nz]
        refine pl_skip (d := some 53) (by rfl) rfl ?_
        simp only [nz]
        refine pl_skip (d := some 54) (by rfl) rfl ?_
        simp only [nz]
        refine pl_skip (d := some 55) (by rfl) rfl ?_
        simp only [nz]
        refine pl_t 56 (?_) (by rfl) ?_ rfl ?_
        rotate_left
        ·go_simp
         try with_reducible rfl
        simp only [nz]
        refine pl_t 4 (?_) (by rfl) ?_ rfl ?_
        rotate_left
        ·go_simp
         try with_reducible rfl
        simp only [nz]
        refine pl_nil ?_
        go_wp2_with fail
        go_ret
        exact ⟨by have := HG.out; simp at this; subst this; rfl, hB.trans (HS.mono hB.size)⟩
       ·refine pl_t 49 (?_) (by rfl) ?_ rfl ?_
        rotate_left
        ·go_simp
         try with_reducible rfl
        simp only [nz]
        refine pl_t 50 (?_) (by rfl) ?_ rfl ?_
        rotate_left
        ·go_simp
         try with_reducible rfl
        simp only [nz]
        refine pl_t 51 (?_) (by rfl) ?_ rfl ?_
        rotate_left
        ·go_simp
         try with_reducible rfl
        simp only [nz]
        refine pl_t 52 (a.sg.val) (by rfl) (pl_one rfl rfl ((HS.cell (p := ⟨w.heap.size, 44, none⟩) sA).trans a44) Tryz.underlying29 rfl) rfl ?_
        simp only [nz]
        refine pl_t 53 (?_) (by rfl) ?_ rfl ?_
        rotate_left
        ·go_simp
         try with_reducible rfl
        simp only [nz]
        refine pl_t 54 (b.sg.val) (by rfl) (pl_one rfl rfl ((HS.cell (p := ⟨w.heap.size + 1, 44, none⟩) sC).trans b44) Tryz.underlying29 rfl) rfl ?_
        simp only [nz]
        refine pl_call (d := some 55) (by rfl) (by go_simp; first | done | exact ⟨rfl, rfl⟩ | with_reducible rfl) rfl ?_
        refine (gS w10 HS).mono ?_
        rintro _ w11 ⟨rfl, hb9⟩
        replace HS := HS.trans (hb9.mono HS.size)
        clear hb9
        refine ⟨_, rfl, ?_⟩
        simp only [nz]
        cases b7
        ·refine pl_t 56 (?_) (by rfl) ?_ rfl ?_
         rotate_left
         ·go_simp
          try with_reducible rfl
         simp only [nz]
         refine pl_t 4 (?_) (by rfl) ?_ rfl ?_
         rotate_left
         ·go_simp
          try with_reducible rfl
         simp only [nz]
         refine pl_nil ?_
         go_wp2_with fail
         go_ret
         exact ⟨by have := HG.out; simp at this; subst this; rfl, hB.trans (HS.mono hB.size)⟩
        ·refine pl_t 56 (?_) (by rfl) ?_ rfl ?_
         rotate_left
         ·go_simp
          try with_reducible rfl
         simp only [nz]
         refine pl_t 4 (?_) (by rfl) ?_ rfl ?_
         rotate_left
         ·go_simp
          try with_reducible rfl
         simp only [nz]
         refine pl_nil ?_
         go_wp2_with fail
         go_ret
         exact ⟨by have := HG.out; simp at this; subst this; rfl, hB.trans (HS.mono hB.size)⟩
     ·refine pl_t 37 (?_) (by rfl) ?_ rfl ?_
      rotate_left
      ·go_simp
       try with_reducible rfl
      simp only [nz]
      refine pl_nil ?_
      go_wp2_with fail
      go_ret
      exact ⟨by have := HG.out; simp at this; subst this; rfl, hB⟩
    ·refine pl_t 30 (?_) (by rfl) ?_ rfl ?_
     rotate_left
     ·go_simp
      try with_reducible rfl
     simp only [nz]
     refine pl_t 31 (?_) (by rfl) ?_ rfl ?_
     rotate_left
     ·go_simp
      try with_reducible rfl
     simp only [nz]
     refine pl_skip (d := some 32) (by rfl) rfl ?_
     simp only [nz]
     refine pl_skip (d := some 33) (by rfl) rfl ?_
     simp only [nz]
     refine pl_skip (d := some 34) (by rfl) rfl ?_
     simp only [nz]
     refine pl_skip (d := some 35) (by rfl) rfl ?_
     simp only [nz]
     refine pl_skip (d := some 36) (by rfl) rfl ?_
     simp only [nz]
     refine pl_t 37 (?_) (by rfl) ?_ rfl ?_
     rotate_left
     ·go_simp
      try with_reducible rfl
     simp only [nz]
     refine pl_nil ?_
     go_wp2_with fail
     go_ret
     exact ⟨by have := HG.out; simp at this; subst this; rfl, hB⟩
   ·refine pl_t 23 (?_) (by rfl) ?_ rfl ?_
    rotate_left
    ·go_simp
     try with_reducible rfl
    simp only [nz]
    refine pl_t 24 (?_) (by rfl) ?_ rfl ?_
    rotate_left
    ·go_simp
     try with_reducible rfl
    simp only [nz]
    refine pl_skip (d := some 25) (by rfl) rfl ?_
    simp only [nz]
    refine pl_skip (d := some 26) (by rfl) rfl ?_
    simp only [nz]
    refine pl_skip (d := some 27) (by rfl) rfl ?_
    simp only [nz]
    refine pl_skip (d := some 28) (by rfl) rfl ?_
    simp only [nz]
    refine pl_skip (d := some 29) (by rfl) rfl ?_
    simp only [nz]
    refine pl_t 30 (?_) (by rfl) ?_ rfl ?_
    rotate_left
    ·go_simp
     try with_reducible rfl
    simp only [nz]
    refine pl_t 31 (?_) (by rfl) ?_ rfl ?_
    rotate_left
    ·go_simp
     try with_reducible rfl
    simp only [nz]
    refine pl_skip (d := some 32) (by rfl) rfl ?_
    simp only [nz]
    refine pl_skip (d := some 33) (by rfl) rfl ?_
    simp only [nz]
    refine pl_skip (d := some 34) (by rfl) rfl ?_
    simp only [nz]
    refine pl_skip (d := some 35) (by rfl) rfl ?_
    simp only [nz]
    refine pl_skip (d := some 36) (by rfl) rfl ?_
    simp only [nz]
    refine pl_t 37 (?_) (by rfl) ?_ rfl ?_
    rotate_left
    ·go_simp
     try with_reducible rfl
    simp only [nz]
    refine pl_nil ?_
    go_wp2_with fail
    go_ret
    exact ⟨by have := HG.out; simp at this; subst this; rfl, hB⟩
  ·refine pl_t 16 (?_) (by rfl) ?_ rfl ?_
   rotate_left
   ·go_simp
    try with_reducible rfl
   simp only [nz]
   refine pl_t 17 (?_) (by rfl) ?_ rfl ?_
   rotate_left
   ·go_simp
    try with_reducible rfl
   simp only [nz]
   refine pl_skip (d := some 18) (by rfl) rfl ?_
   simp only [nz]
   refine pl_skip (d := some 19) (by rfl) rfl ?_
   simp only [nz]
   refine pl_skip (d := some 20) (by rfl) rfl ?_
   simp only [nz]
   refine pl_skip (d := some 21) (by rfl) rfl ?_
   simp only [nz]
   refine pl_skip (d := some 22) (by rfl) rfl ?_
   simp only [nz]
   refine pl_t 23 (?_) (by rfl) ?_ rfl ?_
   rotate_left
   ·go_simp
    try with_reducible rfl
   simp only [nz]
   refine pl_t 24 (?_) (by rfl) ?_ rfl ?_
   rotate_left
   ·go_simp
    try with_reducible rfl
   simp only [nz]
   refine pl_skip (d := some 25) (by rfl) rfl ?_
   simp only [nz]
   refine pl_skip (d := some 26) (by rfl) rfl ?_
   simp only [nz]
   refine pl_skip (d := some 27) (by rfl) rfl ?_
   simp only [nz]
   refine pl_skip (d := some 28) (by rfl) rfl ?_
   simp only [nz]
   refine pl_skip (d := some 29) (by rfl) rfl ?_
   simp only [nz]
   refine pl_t 30 (?_) (by rfl) ?_ rfl ?_
   rotate_left
   ·go_simp
    try with_reducible rfl
   simp only [nz]
   refine pl_t 31 (?_) (by rfl) ?_ rfl ?_
   rotate_left
   ·go_simp
    try with_reducible rfl
   simp only [nz]
   refine pl_skip (d := some 32) (by rfl) rfl ?_
   simp only [nz]
   refine pl_skip (d := some 33) (by rfl) rfl ?_
   simp only [nz]
   refine pl_skip (d := some 34) (by rfl) rfl ?_
   simp only [nz]
   refine pl_skip (d := some 35) (by rfl) rfl ?_
   simp only [nz]
   refine pl_skip (d := some 36) (by rfl) rfl ?_
   simp only [nz]
   refine pl_t 37 (?_) (by rfl) ?_ rfl ?_
   rotate_left
   ·go_simp
    try with_reducible rfl
   simp only [nz]
   refine pl_nil ?_
   go_wp2_with fail
   go_ret
   exact ⟨by have := HG.out; simp at this; subst this; rfl, hB⟩
 ·refine pl_t 10 (?_) (by rfl) ?_ rfl ?_
  rotate_left
  ·go_simp
   try with_reducible rfl
  simp only [nz]
  refine pl_skip (d := some 11) (by rfl) rfl ?_
  simp only [nz]
  refine pl_skip (d := some 12) (by rfl) rfl ?_
  simp only [nz]
  refine pl_skip (d := some 13) (by rfl) rfl ?_
  simp only [nz]
  refine pl_skip (d := some 14) (by rfl) rfl ?_
  simp only [nz]
  refine pl_skip (d := some 15) (by rfl) rfl ?_
  simp only [nz]
  refine pl_t 16 (?_) (by rfl) ?_ rfl ?_
  rotate_left
  ·go_simp
   try with_reducible rfl
  simp only [nz]
  refine pl_t 17 (?_) (by rfl) ?_ rfl ?_
  rotate_left
  ·go_simp
   try with_reducible rfl
  simp only [nz]
  refine pl_skip (d := some 18) (by rfl) rfl ?_
  simp only [nz]
  refine pl_skip (d := some 19) (by rfl) rfl ?_
  simp only [nz]
  refine pl_skip (d := some 20) (by rfl) rfl ?_
  simp only [nz]
  refine pl_skip (d := some 21) (by rfl) rfl ?_
  simp only [nz]
  refine pl_skip (d := some 22) (by rfl) rfl ?_
  simp only [nz]
  refine pl_t 23 (?_) (by rfl) ?_ rfl ?_
  rotate_left
  ·go_simp
   try with_reducible rfl
  simp only [nz]
  refine pl_t 24 (?_) (by rfl) ?_ rfl ?_
  rotate_left
  ·go_simp
   try with_reducible rfl
  simp only [nz]
  refine pl_skip (d := some 25) (by rfl) rfl ?_
  simp only [nz]
  refine pl_skip (d := some 26) (by rfl) rfl ?_
  simp only [nz]
  refine pl_skip (d := some 27) (by rfl) rfl ?_
  simp only [nz]
  refine pl_skip (d := some 28) (by rfl) rfl ?_
  simp only [nz]
  refine pl_skip (d := some 29) (by rfl) rfl ?_
  simp only [nz]
  refine pl_t 30 (?_) (by rfl) ?_ rfl ?_
  rotate_left
  ·go_simp
   try with_reducible rfl
  simp only [nz]
  refine pl_t 31 (?_) (by rfl) ?_ rfl ?_
  rotate_left
  ·go_simp
   try with_reducible rfl
  simp only [nz]
  refine pl_skip (d := some 32) (by rfl) rfl ?_
  simp only [nz]
  refine pl_skip (d := some 33) (by rfl) rfl ?_
  simp only [nz]
  refine pl_skip (d := some 34) (by rfl) rfl ?_
  simp only [nz]
  refine pl_skip (d := some 35) (by rfl) rfl ?_
  simp only [nz]
  refine pl_skip (d := some 36) (by rfl) rfl ?_
  simp only [nz]
  refine pl_t 37 (?_) (by rfl) ?_ rfl ?_
  rotate_left
  ·go_simp
   try with_reducible rfl
  simp only [nz]
  refine pl_nil ?_
  go_wp2_with fail
  go_ret
  exact ⟨by have := HG.out; simp at this; subst this; rfl, hB⟩
theorem bat_all (q : Bool) (x : Sl Rq) : (#[Value.bool q, x.val] : Array Value).all (·.oneCell') = true := all_one (cs := [.bool q, x.val]) (by
 intro v hv
 simp only [List.mem_cons, List.not_mem_nil, or_false] at hv
 rcases hv with rfl | rfl <;> rfl)
def Rc.zero (k : Int) : Rc := ⟨k, 0, 0, 0, false, ⟨none, 0, []⟩, Vt.zero, ⟨none, 0, []⟩, ⟨#[]⟩, ⟨none, 0, []⟩⟩
def Rc.bare (r : Rc) : Rc :=
  if r.k = 1 then { Rc.zero 1 with s := r.s, v := r.v, q := r.q, rs := r.rs }
  else if r.k = 2 then { Rc.zero 2 with q := r.q, rs := r.rs, ct := r.ct, cs := r.cs }
  else if r.k = 4 then { Rc.zero 4 with q := r.q, rs := r.rs, ct := r.ct, cs := r.cs }
  else if r.k = 3 then { Rc.zero 3 with l := r.l, v := r.v }
  else if r.k = 5 then { Rc.zero 5 with st := r.st, sg := r.sg }
  else Rc.zero r.k
theorem Rc.zero_at (k : Int) (w : World) : (Rc.zero k).At w := ⟨RowsAt.none, RowsAt.none, RowsAt.none⟩
theorem Rc.bare_ok {r : Rc} (h : r.ct.ok) : r.bare.ct.ok := by
 unfold Rc.bare
 split
 ·exact Vt.zero_ok
 split
 ·exact h
 split
 ·exact h
 split
 ·exact Vt.zero_ok
 split
 ·exact Vt.zero_ok
 ·exact Vt.zero_ok
theorem Rc.bare_at {r : Rc} {w : World} (h : r.At w) : r.bare.At w := by
 unfold Rc.bare
 split
 ·exact ⟨h.rs, RowsAt.none, RowsAt.none⟩
 split
 ·exact ⟨h.rs, h.cs, RowsAt.none⟩
 split
 ·exact ⟨h.rs, h.cs, RowsAt.none⟩
 split
 ·exact ⟨RowsAt.none, RowsAt.none, RowsAt.none⟩
 split
 ·exact ⟨RowsAt.none, RowsAt.none, h.sg⟩
 ·exact Rc.zero_at _ w
def placesR : Array (Nat × Nat) := #[(0, 1), (1, 1), (2, 1), (3, 1), (4, 2), (6, 37), (43, 1), (44, 1)]
theorem zeroRc (w : World) : (zeroValue 33).run Tryz.prog w = .ok (.agg (Rc.zero 0).cells.toArray) w := by kernel_rfl
set_option maxRecDepth 100000 in
theorem build_rec (parts : Array (Nat × Value)) (cs : List Value) (w : World) (h : Instr.fill (placesR[·]?) (Rc.zero 0).cells.toArray parts.toList = some cs.toArray) : (Instr.build 33 parts).run Tryz.prog w = .ok (.agg cs.toArray) w := by
 have hp : (((Tryz.prog.fieldsOf 33).mapM fun f => do pure (f.offset, ← sizeOf f.type) : Sem (Array (Nat × Nat)))).run Tryz.prog w = .ok placesR w := by kernel_rfl
 have hu : Tryz.prog.underlying 33 = some (.struct (Tryz.prog.fieldsOf 33)) := by kernel_rfl
 unfold Instr.build
 simp only [Sem.run_bind, zeroRc, Result.andThen_ok, run_underlying hu]
 rw [hp]
 simp only [Result.andThen_ok, Value.cells]
 rw [h]
 rfl
theorem build_rk (k : Int) (w : World) : (Instr.build 33 #[(0, .int .i64 k)]).run Tryz.prog w = .ok (.agg (Rc.zero k).cells.toArray) w := by
 refine build_rec _ _ w ?_
 show Instr.fill (placesR[·]?) (([] : List Value) ++ ([Value.int .i64 0] ++ _)).toArray _ = _
 rw [fill_step (off := 0) (n := 1) (vs := [.int .i64 k]) rfl rfl rfl rfl rfl]
 rfl
structure OnB (w : World) (A R X : Nat) (r c : Rc) (W : World) : Prop where
  box : W.rangeAt A 0 r.cells
  own : W.rangeAt X 0 c.cells
  thX : W.there X 0 45
  thR : W.there R 0 45
  hb : Below w.heap.size w W
theorem OnB.put {w W : World} {A R X : Nat} {r c c' : Rc} (h : OnB w A R X r c W) (hA : A ≠ X) (hX : w.heap.size ≤ X) (pre mid vs post : List Value) (e1 : c.cells = pre ++ (mid ++ post)) (e2 : c'.cells = pre ++ (vs ++ post)) (o : Nat) (ho : pre.length = o) (hl : vs.length = mid.length) (hn : o + vs.length ≤ 45) : OnB w A R X r c' (W.setCells X o vs) :=
 ⟨World.rangeAt_setCells_apart h.box X o vs (.inl hA), by rw [e2]; exact range_put (by rw [← e1]; exact h.own) o ho (there_part1 h.thX hn) hl, World.there_setCells h.thX X o vs, World.there_setCells h.thR X o vs, below_sets hX vs o _ h.hb⟩
theorem OnB.l {w W : World} {A R X : Nat} {r c : Rc} (h : OnB w A R X r c W) (hA : A ≠ X) (hX : w.heap.size ≤ X) (x : Int) : OnB w A R X r { c with l := x } (W.setCells X 1 [.int .i64 x]) :=
 h.put hA hX [.int .i64 c.k] [.int .i64 c.l] [.int .i64 x] _ rfl rfl 1 rfl rfl (by simp)
theorem OnB.v {w W : World} {A R X : Nat} {r c : Rc} (h : OnB w A R X r c W) (hA : A ≠ X) (hX : w.heap.size ≤ X) (x : Int) : OnB w A R X r { c with v := x } (W.setCells X 2 [.int .i64 x]) :=
 h.put hA hX [.int .i64 c.k, .int .i64 c.l] [.int .i64 c.v] [.int .i64 x] _ rfl rfl 2 rfl rfl (by simp)
theorem OnB.s {w W : World} {A R X : Nat} {r c : Rc} (h : OnB w A R X r c W) (hA : A ≠ X) (hX : w.heap.size ≤ X) (x : Int) : OnB w A R X r { c with s := x } (W.setCells X 3 [.int .i64 x]) :=
 h.put hA hX [.int .i64 c.k, .int .i64 c.l, .int .i64 c.v] [.int .i64 c.s] [.int .i64 x] _ rfl rfl 3 rfl rfl (by simp)
theorem OnB.b {w W : World} {A R X : Nat} {r c : Rc} (h : OnB w A R X r c W) (hA : A ≠ X) (hX : w.heap.size ≤ X) (q : Bool) (x : Sl Rq) : OnB w A R X r { c with q := q, rs := x } (W.setCells X 4 [.bool q, x.val]) :=
 h.put hA hX [.int .i64 c.k, .int .i64 c.l, .int .i64 c.v, .int .i64 c.s] [.bool c.q, c.rs.val] [.bool q, x.val] _ rfl rfl 4 rfl rfl (by simp)
theorem OnB.c {w W : World} {A R X : Nat} {r c : Rc} (h : OnB w A R X r c W) (hA : A ≠ X) (hX : w.heap.size ≤ X) (hc : c.ct.ok) (y : Vt) (hy : y.ok) (x : Sl Sg) : OnB w A R X r { c with ct := y, cs := x } (W.setCells X 6 (certL y x)) :=
 h.put hA hX [.int .i64 c.k, .int .i64 c.l, .int .i64 c.v, .int .i64 c.s, .bool c.q, c.rs.val] (certL c.ct c.cs) (certL y x) _ rfl rfl 6 rfl (by rw [cert_len hc, cert_len hy]) (by rw [cert_len hy]; decide)
theorem OnB.t {w W : World} {A R X : Nat} {r c : Rc} (h : OnB w A R X r c W) (hA : A ≠ X) (hX : w.heap.size ≤ X) (hc : c.ct.ok) (x : ByteArray) : OnB w A R X r { c with st := x } (W.setCells X 43 [.string x]) :=
 h.put hA hX ([.int .i64 c.k, .int .i64 c.l, .int .i64 c.v, .int .i64 c.s, .bool c.q, c.rs.val] ++ certL c.ct c.cs) [.string c.st] [.string x] [c.sg.val] (by simp [Rc.cells]) (by simp [Rc.cells]) 43 (by rw [List.length_append, cert_len hc]; rfl) rfl (by simp)
theorem OnB.g {w W : World} {A R X : Nat} {r c : Rc} (h : OnB w A R X r c W) (hA : A ≠ X) (hX : w.heap.size ≤ X) (hc : c.ct.ok) (x : Sl Sg) : OnB w A R X r { c with sg := x } (W.setCells X 44 [x.val]) :=
 h.put hA hX ([.int .i64 c.k, .int .i64 c.l, .int .i64 c.v, .int .i64 c.s, .bool c.q, c.rs.val] ++ (certL c.ct c.cs ++ [.string c.st])) [c.sg.val] [x.val] [] (by simp [Rc.cells]) (by simp [Rc.cells]) 44 (by simp [cert_len hc]) rfl (by simp)
theorem Rc.bare1 {r : Rc} (h : r.k = 1) : r.bare = { Rc.zero r.k with s := r.s, v := r.v, q := r.q, rs := r.rs } := by
 unfold Rc.bare
 rw [h]
 simp
theorem Rc.bare2 {r : Rc} (h : r.k = 2) : r.bare = { Rc.zero r.k with q := r.q, rs := r.rs, ct := r.ct, cs := r.cs } := by
 unfold Rc.bare
 rw [h]
 simp
theorem Rc.bare4 {r : Rc} (h : r.k = 4) : r.bare = { Rc.zero r.k with q := r.q, rs := r.rs, ct := r.ct, cs := r.cs } := by
 unfold Rc.bare
 rw [h]
 simp
theorem Rc.bare3 {r : Rc} (h : r.k = 3) : r.bare = { Rc.zero r.k with l := r.l, v := r.v } := by
 unfold Rc.bare
 rw [h]
 simp
theorem Rc.bare5 {r : Rc} (h : r.k = 5) : r.bare = { Rc.zero r.k with st := r.st, sg := r.sg } := by
 unfold Rc.bare
 rw [h]
 simp
theorem mkK_cases (k : Int) : (k = 1 ∧ mkK k = 1) ∨ (k = 3 ∧ mkK k = 4) ∨ (k = 5 ∧ mkK k = 8) ∨ (k = 2 ∧ mkK k = 7) ∨ (k = 4 ∧ mkK k = 7) ∨ (mkK k = 0 ∧ ¬ (1 ≤ k ∧ k ≤ 5)) := by
 by_cases h1 : k = 1
 ·exact .inl ⟨h1, by rw [h1]; rfl⟩
 by_cases h3 : k = 3
 ·exact .inr (.inl ⟨h3, by rw [h3]; rfl⟩)
 by_cases h5 : k = 5
 ·exact .inr (.inr (.inl ⟨h5, by rw [h5]; rfl⟩))
 by_cases h2 : k = 2
 ·exact .inr (.inr (.inr (.inl ⟨h2, by rw [h2]; rfl⟩)))
 by_cases h4 : k = 4
 ·exact .inr (.inr (.inr (.inr (.inl ⟨h4, by rw [h4]; rfl⟩))))
 ·exact .inr (.inr (.inr (.inr (.inr ⟨by unfold mkK; rw [if_neg h1, if_neg h3, if_neg h5, if_neg h2, if_neg h4], by omega⟩))))
theorem Rc.told_k (r : Rc) : r.told.pure.k = mkK r.k := rfl
theorem Rc.told_bare {r : Rc} (h : r.told.pure.good) : (1 ≤ r.k ∧ r.k ≤ 5) ∧ r.pure = r.bare.pure := by
 have hk := Rc.told_k r
 rcases mkK_cases r.k with ⟨e, m⟩ | ⟨e, m⟩ | ⟨e, m⟩ | ⟨e, m⟩ | ⟨e, m⟩ | ⟨m, n⟩
 ·rw [m] at hk
  rcases h with h | h | h | h | h | h | h | h <;> (first | (have := h.1; omega) | skip)
  refine ⟨by omega, ?_⟩
  have o := h.2.2
  have hl : (0 : Int) = r.l := congrArg Mp.l o
  have hct : Vt.zero = r.ct := congrArg Mp.ct o
  have hcs : [] = r.cs.xs := congrArg Mp.cs o
  have hst : (⟨#[]⟩ : ByteArray) = r.st := congrArg Mp.st o
  have hsg : [] = r.sg.xs := congrArg Mp.sg o
  rw [Rc.bare1 e]
  show (⟨r.k, r.l, r.v, r.s, r.q, r.rs.xs, r.ct, r.cs.xs, r.st, r.sg.xs⟩ : Rp) = ⟨r.k, 0, r.v, r.s, r.q, r.rs.xs, Vt.zero, [], ⟨#[]⟩, []⟩
  rw [← hl, ← hct, ← hcs, ← hst, ← hsg]
 ·rw [m] at hk
  rcases h with h | h | h | h | h | h | h | h <;> (first | (have := h.1; omega) | skip)
  refine ⟨by omega, ?_⟩
  have o := h.2.2
  have hs : (0 : Int) = r.s := congrArg Mp.s o
  have hq : false = r.q := congrArg Mp.q o
  have hrs : [] = r.rs.xs := congrArg Mp.rs o
  have hct : Vt.zero = r.ct := congrArg Mp.ct o
  have hcs : [] = r.cs.xs := congrArg Mp.cs o
  have hst : (⟨#[]⟩ : ByteArray) = r.st := congrArg Mp.st o
  have hsg : [] = r.sg.xs := congrArg Mp.sg o
  rw [Rc.bare3 e]
  show (⟨r.k, r.l, r.v, r.s, r.q, r.rs.xs, r.ct, r.cs.xs, r.st, r.sg.xs⟩ : Rp) = ⟨r.k, r.l, r.v, 0, false, [], Vt.zero, [], ⟨#[]⟩, []⟩
  rw [← hs, ← hq, ← hrs, ← hct, ← hcs, ← hst, ← hsg]
 ·rw [m] at hk
  rcases h with h | h | h | h | h | h | h | h <;> (first | (have := h.1; omega) | skip)
  refine ⟨by omega, ?_⟩
  have o := h.2.2
  have hl : (0 : Int) = r.l := congrArg Mp.l o
  have hv : (0 : Int) = (if r.k = 1 then 0 else r.v) := congrArg Mp.v o
  rw [if_neg (by omega)] at hv
  have hs : (0 : Int) = r.s := congrArg Mp.s o
  have hq : false = r.q := congrArg Mp.q o
  have hrs : [] = r.rs.xs := congrArg Mp.rs o
  have hct : Vt.zero = r.ct := congrArg Mp.ct o
  have hcs : [] = r.cs.xs := congrArg Mp.cs o
  rw [Rc.bare5 e]
  show (⟨r.k, r.l, r.v, r.s, r.q, r.rs.xs, r.ct, r.cs.xs, r.st, r.sg.xs⟩ : Rp) = ⟨r.k, 0, 0, 0, false, [], Vt.zero, [], r.st, r.sg.xs⟩
  rw [← hl, ← hv, ← hs, ← hq, ← hrs, ← hct, ← hcs]
 ·rw [m] at hk
  rcases h with h | h | h | h | h | h | h | h <;> (first | (have := h.1; omega) | skip)
  refine ⟨by omega, ?_⟩
  have o := h.2.2
  have hl : (0 : Int) = r.l := congrArg Mp.l o
  have hv : (0 : Int) = (if r.k = 1 then 0 else r.v) := congrArg Mp.v o
  rw [if_neg (by omega)] at hv
  have hs : (0 : Int) = r.s := congrArg Mp.s o
  have hst : (⟨#[]⟩ : ByteArray) = r.st := congrArg Mp.st o
  have hsg : [] = r.sg.xs := congrArg Mp.sg o
  rw [Rc.bare2 e]
  show (⟨r.k, r.l, r.v, r.s, r.q, r.rs.xs, r.ct, r.cs.xs, r.st, r.sg.xs⟩ : Rp) = ⟨r.k, 0, 0, 0, r.q, r.rs.xs, r.ct, r.cs.xs, ⟨#[]⟩, []⟩
  rw [← hl, ← hv, ← hs, ← hst, ← hsg]
 ·rw [m] at hk
  rcases h with h | h | h | h | h | h | h | h <;> (first | (have := h.1; omega) | skip)
  refine ⟨by omega, ?_⟩
  have o := h.2.2
  have hl : (0 : Int) = r.l := congrArg Mp.l o
  have hv : (0 : Int) = (if r.k = 1 then 0 else r.v) := congrArg Mp.v o
  rw [if_neg (by omega)] at hv
  have hs : (0 : Int) = r.s := congrArg Mp.s o
  have hst : (⟨#[]⟩ : ByteArray) = r.st := congrArg Mp.st o
  have hsg : [] = r.sg.xs := congrArg Mp.sg o
  rw [Rc.bare4 e]
  show (⟨r.k, r.l, r.v, r.s, r.q, r.rs.xs, r.ct, r.cs.xs, r.st, r.sg.xs⟩ : Rp) = ⟨r.k, 0, 0, 0, r.q, r.rs.xs, r.ct, r.cs.xs, ⟨#[]⟩, []⟩
  rw [← hl, ← hv, ← hs, ← hst, ← hsg]
 ·rw [m] at hk
  rcases h with h | h | h | h | h | h | h | h <;> (have := h.1; omega)
def Rc.bytes (r : Rc) : List Int := if r.k = 1 then ((putL r.k ++ putL r.s) ++ putL r.v) ++ batL r.q (r.rs.xs.map BRq.of) else if r.k = 3 then (putL r.k ++ putL r.l) ++ putL r.v else putL r.k ++ textL (strOf r.told.bytes)
def Rc.Fine (r : Rc) : Prop := r.told.Fine ∧ r.v ≤ 9223372036854775807 ∧ 1 ≤ r.k ∧ r.k ≤ 5
def encZ (r : Rc) : List Int := if r.good then r.bytes else []
def encE (r : Rc) : Int := if r.good then 0 else 240
def EncR (r : Rc) (w : World) (e : Ending) (w' : World) : Prop := ∃ v, e = .returned (.tuple #[v, .int .i64 (encE r)]) ∧ Mine w' w.heap.size v (encZ r) ∧ Below w.heap.size w w'
theorem tput_on (a : Option Addr) (cap : Nat) (zs : List Int) (n : Int) (w : World) (h : RowAt w a zs) (hz : zs.length ≤ 1000000) (hn : n ≤ 9223372036854775807) : Calls Tryz.prog 47 #[.slice a zs.length cap, .int .i64 n] w fun e w' => FOn zs (putL n) w e w' := put_any a cap zs n w h (by omega) hn
theorem nil_mine (w : World) (B : Nat) : Mine w B (.slice none 0 0) [] := ⟨World.ownsRow_nil w B 5 1, fun z h => by cases h⟩
theorem strOf_len (zs : List Int) : (strOf zs).size = zs.length := strOf_size zs
theorem Rc.bytes_le {r : Rc} {w : World} (am : r.At w) (h : r.Fine) : r.bytes.length ≤ 3000000 := by
 obtain ⟨hf, hv, k1, k5⟩ := h
 have hs : r.s ≤ 9223372036854775807 := hf.s
 have hl : r.l ≤ 9223372036854775807 := hf.l
 have p1 := putL_le r.k (by omega)
 have p2 := putL_le r.s hs
 have p3 := putL_le r.v hv
 have p4 := putL_le r.l hl
 have hall := hf.all
 unfold Rc.bytes
 split
 ·have hb : (batL r.q (r.rs.xs.map BRq.of)).length ≤ 900000 := batL_le r.q (r.rs.xs.map BRq.of) (by rw [List.length_map]; exact hf.rn) (reqs_at am.rs).2.1 (fun y hy => by
   obtain ⟨z, hz, rfl⟩ := List.mem_map.1 hy
   exact hf.rs z hz)
  simp only [List.length_append]
  omega
 split
 ·simp only [List.length_append]
  omega
 ·have ht : (textL (strOf r.told.bytes)).length ≤ 41000 := by
   unfold textL
   rw [List.length_append, strL_length, strOf_len]
   have := putL_le ((strOf r.told.bytes).size : Int) (by rw [strOf_len]; omega)
   rw [strOf_len] at this
   omega
  simp only [List.length_append]
  omega
def Rp.zero (k : Int) : Rp := ⟨k, 0, 0, 0, false, [], Vt.zero, [], ⟨#[]⟩, []⟩
def krA (s : Xst) : (Rp × ByteArray) × Xst := (({ Rp.zero 1 with s := (xnuS 1099511627776 s).1, v := (xnuS 1099511627776 (xnuS 1099511627776 s).2).1, q := (xbaS (xnuS 1099511627776 (xnuS 1099511627776 s).2).2).1.1, rs := (xbaS (xnuS 1099511627776 (xnuS 1099511627776 s).2).2).1.2 }, ⟨#[]⟩), (xbaS (xnuS 1099511627776 (xnuS 1099511627776 s).2).2).2)
def krV (s : Xst) : (Rp × ByteArray) × Xst := (({ Rp.zero 3 with l := (xnuS 64 s).1, v := (xnuS 1099511627776 (xnuS 64 s).2).1 }, ⟨#[]⟩), (xnuS 1099511627776 (xnuS 64 s).2).2)
def krT (k : Int) (s : Xst) : (Rp × ByteArray) × Xst := ((Rp.zero k, (xtxS 4194304 s).1), (xtxS 4194304 s).2)
def krS (s : Xst) : (Rp × ByteArray) × Xst :=
  if (xnuS 5 s).1 = 1 then krA (xnuS 5 s).2
  else if (xnuS 5 s).1 = 3 then krV (xnuS 5 s).2
  else if (xnuS 5 s).1 = 2 ∨ (xnuS 5 s).1 = 4 ∨ (xnuS 5 s).1 = 5 then krT (xnuS 5 s).1 (xnuS 5 s).2
  else ((Rp.zero (xnuS 5 s).1, ⟨#[]⟩), (xnuS 5 s).2)
theorem pnumS (R : Nat) (most : Int) (s : Xst) (w : World) (h : St w R s.1 s.2) : Calls Tryz.prog 72 #[.pointer (some ⟨R, 0, none⟩), .int .i64 most] w fun en w' => en = .returned (.int .i64 (xnuS most s).1) ∧ St w' R (xnuS most s).2.1 (xnuS most s).2.2 ∧ w.grownBy w' (some R) := num_any R s.1 s.2 most w h
theorem ptextS (R : Nat) (most : Int) (s : Xst) (w : World) (h : St w R s.1 s.2) : Calls Tryz.prog 74 #[.pointer (some ⟨R, 0, none⟩), .int .i64 most] w fun en w' => en = .returned (.string (xtxS most s).1) ∧ St w' R (xtxS most s).2.1 (xtxS most s).2.2 ∧ w.grownBy w' (some R) := text_any R s.1 s.2 most w h h.pos
theorem pbatS (R : Nat) (s : Xst) (w : World) (h : St w R s.1 s.2) (hl : s.1.length ≤ 40000) : Calls Tryz.prog 73 #[.pointer (some ⟨R, 0, none⟩)] w fun en w' => ∃ x : Sl Rq, en = .returned (.agg #[.bool (xbaS s).1.1, x.val]) ∧ x.xs = (xbaS s).1.2 ∧ x.At RqE w' ∧ x.Bk (fun b => w.heap.size ≤ b) ∧ St w' R (xbaS s).2.1 (xbaS s).2.2 ∧ w.grownBy w' (some R) :=
 (bget_any R s.1 s.2 w h hl h.bs).mono (by
  rintro _ w1 ⟨a, cap, rfl, h1, h2, h3, h4, h5, h6⟩
  have e : (getB s.1 s.2).rs.length = ((getB s.1 s.2).rs.map BRq.un).length := (List.length_map ..).symm
  refine ⟨⟨a, cap, _⟩, ?_, rfl, rows_req h3, ?_, h5, h6⟩
  ·show _ = Ending.returned (.agg #[_, .slice a ((getB s.1 s.2).rs.map BRq.un).length cap])
   rw [← e]; rfl
  ·intro b hne hb
   exact h4 b hb)
structure KR (w : World) (R X : Nat) (c : Rc) (s : Xst) (W : World) : Prop where
  own : W.rangeAt X 0 c.cells
  thX : W.there X 0 45
  st : St W R s.1 s.2
  gb : w.grownBy W (some R)
  lx : X < W.heap.size
  xw : w.heap.size ≤ X
  rx : R < w.heap.size
  ok : c.ct.ok
theorem KR.on {w W W' : World} {R X : Nat} {c : Rc} {s : Xst} (h : KR w R X c s W) (s' : Xst) (hs : St W' R s'.1 s'.2) (hg : W.grownBy W' (some R)) : KR w R X c s' W' := by
 have h1 := h.xw
 have h2 := h.rx
 have hb := hg.block X h.lx (by intro q; injection q with q; omega)
 exact ⟨range_blk h.own hb, there_blk h.thX hb, hs, gb_trans h.gb hg, Nat.lt_of_lt_of_le h.lx hg.size, h1, h2, h.ok⟩
theorem KR.put {w W : World} {R X : Nat} {c c' : Rc} {s : Xst} (h : KR w R X c s W) (hc : c'.ct.ok) (pre mid vs post : List Value) (e1 : c.cells = pre ++ (mid ++ post)) (e2 : c'.cells = pre ++ (vs ++ post)) (o : Nat) (ho : pre.length = o) (hl : vs.length = mid.length) (hn : o + vs.length ≤ 45) : KR w R X c' s (W.setCells X o vs) := by
 have h1 := h.xw
 have h2 := h.rx
 have hb : Below w.heap.size W (W.setCells X o vs) := below_sets h1 vs o _ (Below.refl _ _)
 exact ⟨by rw [e2]; exact range_put (by rw [← e1]; exact h.own) o ho (there_part1 h.thX hn) hl, World.there_setCells h.thX X o vs, h.st.belowN hb h2, ⟨hb.os.trans h.gb.os, hb.tape.trans h.gb.tape, hb.output.trans h.gb.output, Nat.le_trans h.gb.size hb.size, fun i hi hne => (hb.block i hi).trans (h.gb.block i hi hne)⟩, by rw [size_sets]; exact h.lx, h1, h2, hc⟩
theorem KR.k {w W : World} {R X : Nat} {c : Rc} {s : Xst} (h : KR w R X c s W) (x : Int) : KR w R X { c with k := x } s (W.setCells X 0 [.int .i64 x]) :=
 h.put (c' := { c with k := x }) h.ok [] [.int .i64 c.k] [.int .i64 x] _ rfl rfl 0 rfl rfl (by simp)
theorem KR.l {w W : World} {R X : Nat} {c : Rc} {s : Xst} (h : KR w R X c s W) (x : Int) : KR w R X { c with l := x } s (W.setCells X 1 [.int .i64 x]) :=
 h.put (c' := { c with l := x }) h.ok [.int .i64 c.k] [.int .i64 c.l] [.int .i64 x] _ rfl rfl 1 rfl rfl (by simp)
theorem KR.v {w W : World} {R X : Nat} {c : Rc} {s : Xst} (h : KR w R X c s W) (x : Int) : KR w R X { c with v := x } s (W.setCells X 2 [.int .i64 x]) :=
 h.put (c' := { c with v := x }) h.ok [.int .i64 c.k, .int .i64 c.l] [.int .i64 c.v] [.int .i64 x] _ rfl rfl 2 rfl rfl (by simp)
theorem KR.s {w W : World} {R X : Nat} {c : Rc} {s : Xst} (h : KR w R X c s W) (x : Int) : KR w R X { c with s := x } s (W.setCells X 3 [.int .i64 x]) :=
 h.put (c' := { c with s := x }) h.ok [.int .i64 c.k, .int .i64 c.l, .int .i64 c.v] [.int .i64 c.s] [.int .i64 x] _ rfl rfl 3 rfl rfl (by simp)
theorem KR.b {w W : World} {R X : Nat} {c : Rc} {s : Xst} (h : KR w R X c s W) (q : Bool) (x : Sl Rq) : KR w R X { c with q := q, rs := x } s (W.setCells X 4 [.bool q, x.val]) :=
 h.put (c' := { c with q := q, rs := x }) h.ok [.int .i64 c.k, .int .i64 c.l, .int .i64 c.v, .int .i64 c.s] [.bool c.q, c.rs.val] [.bool q, x.val] _ rfl rfl 4 rfl rfl (by simp)
def ReadK (w : World) (R : Nat) (p : (Rp × ByteArray) × Xst) (en : Ending) (w' : World) : Prop := ∃ c : Rc, en = .returned (.tuple #[.agg c.cells.toArray, .string p.1.2]) ∧ c.pure = p.1.1 ∧ c.ct.ok ∧ c.rs.At RqE w' ∧ c.cs = ⟨none, 0, []⟩ ∧ c.sg = ⟨none, 0, []⟩ ∧ c.rs.Bk (fun b => w.heap.size ≤ b) ∧ St w' R p.2.1 p.2.2 ∧ w.grownBy w' (some R)
theorem xnuS_len (most : Int) (s : Xst) : (xnuS most s).2.1.length ≤ s.1.length := numS_len _ _ _
set_option maxRecDepth 100000 in
set_option maxHeartbeats 2000000 in
theorem kread_any (R : Nat) (s : Xst) (w : World) (h : St w R s.1 s.2) (hl : s.1.length ≤ 40000) : Calls Tryz.prog 36 #[.pointer (some ⟨R, 0, none⟩)] w fun en w' => ReadK w R (krS s) en w' := by
 obtain ⟨zc, hz0, hzl, hzr⟩ : ∃ z : List Value, Hid (z = (Rc.zero 0).cells) ∧ z.length = 45 ∧ ∀ w : World, (zeroValue 33).run Tryz.prog w = .ok (.agg z.toArray) w := ⟨_, hide rfl, Rc.len Vt.zero_ok, zeroRc⟩
 have hR : R < w.heap.size := h.1.1
 have c1 := fun w0 h0 => pnumS R 5 s w0 h0
 have l1 : (xnuS 5 s).2.1.length ≤ 40000 := Nat.le_trans (xnuS_len 5 s) hl
 unfold krS
 generalize xnuS 5 s = p at c1 l1 ⊢
 obtain ⟨k, s1⟩ := p
 simp only at c1 l1 ⊢
 obtain ⟨PP, HP1⟩ : ∃ P, Hid (P = (if k = 1 then krA s1 else if k = 3 then krV s1 else if k = 2 ∨ k = 4 ∨ k = 5 then krT k s1 else ((Rp.zero k, ⟨#[]⟩), s1))) := ⟨_, hide rfl⟩
 rw [← HP1.out]
 obtain ⟨hB1, hr0, hs1⟩ := boxed_new w zc 33
 have ht1 := there_newN w zc.toArray 33 (n := 45) (by simp [hzl])
 have on : KR w R w.heap.size (Rc.zero 0) s (w.alloc (.cells zc.toArray 33)) := ⟨by rw [← hz0.out]; exact hr0, ht1, h.below hB1, ⟨hB1.os, hB1.tape, hB1.output, hB1.size, fun i hi _ => hB1.block i hi⟩, hs1, Nat.le_refl _, hR, Vt.zero_ok⟩
 clear hB1 hr0 hs1 ht1 hz0 hzl h hl
 obtain ⟨X, hX⟩ : ∃ X, w.heap.size = X := ⟨_, rfl⟩
 have hXs : X = w.heap.size := hX.symm
 go_enter Tryz.func36, Tryz.ntmps36
 go_upto_region 0 with fail
 try simp only [Act.put]
 refine pl_begin ?_
 refine pl_run (d := some 2) (v := .pointer (some ⟨w.heap.size, 0, none⟩)) (w' := w.alloc (.cells zc.toArray 33)) (by rfl) (ex_alloc rfl (hzr _)) rfl ?_
 simp only [nz]
 refine pl_t 3 (?_) (by rfl) ?_ rfl ?_
 rotate_left
 ·go_simp
  try with_reducible rfl
 simp only [nz]
 refine pl_nil ?_
 obtain ⟨W1, hW1⟩ : ∃ W, w.alloc (.cells zc.toArray 33) = W := ⟨_, rfl⟩
 rw [hW1] at on ⊢
 rw [hX] at on
 simp only [hX]
 have HX := hide hXs
 clear hW1 hX hXs hR hzr
 go_upto_region 1 with fail
 try simp only [Act.put]
 refine pl_begin ?_
 refine pl_t 4 (?_) (by rfl) ?_ rfl ?_
 rotate_left
 ·go_simp
  try with_reducible rfl
 simp only [nz]
 refine pl_call (d := some 5) (by rfl) (by go_simp; first | done | exact ⟨rfl, rfl⟩ | with_reducible rfl) rfl ?_
 refine (c1 W1 on.st).mono ?_
 rintro _ o1W ⟨rfl, hs9, hg9⟩
 have o1 := on.on _ hs9 hg9
 clear hs9 hg9
 refine ⟨_, rfl, ?_⟩
 simp only [nz]
 refine pl_t 6 (?_) (by rfl) ?_ rfl ?_
 rotate_left
 ·go_simp
  try with_reducible rfl
 simp only [nz]
 refine pl_store (w' := o1W.setCells X 0 [.int .i64 k]) (by rfl) (ex_put1 (n := 45) rfl rfl rfl o1.thX (by decide) iszI rfl rfl) rfl ?_
 refine pl_nil ?_
 have o1' := o1.k k
 obtain ⟨o1V, ho1⟩ : ∃ W, o1W.setCells X 0 [.int .i64 k] = W := ⟨_, rfl⟩
 rw [ho1] at o1' ⊢
 clear ho1 o1 on
 have on := o1'
 clear o1' c1
 have k0 : o1V.cell? ⟨X, 0, none⟩ = some (.int .i64 k) := on.own 0 _ rfl
 go_upto_region 2 with fail
 try simp only [Act.put]
 refine pl_begin ?_
 refine pl_t 7 (?_) (by rfl) ?_ rfl ?_
 rotate_left
 ·go_simp
  try with_reducible rfl
 simp only [nz]
 refine pl_t 8 (.int .i64 k) (by rfl) (pl_one rfl rfl k0 Tryz.underlying3 rfl) rfl ?_
 simp only [nz]
 refine pl_nil ?_
 clear k0
 by_cases hk1 : k = 1
 ·have HP : PP = krA s1 := by rw [HP1.out, if_pos hk1]
  clear HP1
  subst hk1
  unfold krA at HP
  have c2 := fun w0 h0 => pnumS R 1099511627776 s1 w0 h0
  have l2 := Nat.le_trans (xnuS_len 1099511627776 s1) l1
  generalize xnuS 1099511627776 s1 = p at c2 l2 HP
  obtain ⟨x2, s2⟩ := p
  simp only at c2 l2 HP
  have c3 := fun w0 h0 => pnumS R 1099511627776 s2 w0 h0
  have l3 := Nat.le_trans (xnuS_len 1099511627776 s2) l2
  generalize xnuS 1099511627776 s2 = p at c3 l3 HP
  obtain ⟨x3, s3⟩ := p
  simp only at c3 l3 HP
  have c4 := fun w0 h0 => pbatS R s3 w0 h0 l3
  generalize xbaS s3 = p at c4 HP
  obtain ⟨⟨q4, rs4⟩, s4⟩ := p
  simp only at c4 HP
  have HPP := hide HP
  clear HP
  clear l1 l2 l3
  go_upto_region 3 with fail
  try simp only [Act.put]
  refine pl_begin ?_
  refine pl_t 10 (.bool true) (by rfl) (by go_simp <;> (try simp [*])) rfl ?_
  simp only [nz]
  refine pl_t 9 (?_) (by rfl) ?_ rfl ?_
  rotate_left
  ·go_simp
   try with_reducible rfl
  simp only [nz]
  refine pl_nil ?_
  go_upto_region 8 with fail
  try simp only [Act.put]
  refine pl_begin ?_
  refine pl_t 18 (?_) (by rfl) ?_ rfl ?_
  rotate_left
  ·go_simp
   try with_reducible rfl
  simp only [nz]
  refine pl_call (d := some 19) (by rfl) (by go_simp; first | done | exact ⟨rfl, rfl⟩ | with_reducible rfl) rfl ?_
  refine (c2 o1V on.st).mono ?_
  rintro _ o2W ⟨rfl, hs9, hg9⟩
  have o2 := on.on _ hs9 hg9
  clear hs9 hg9
  refine ⟨_, rfl, ?_⟩
  simp only [nz]
  refine pl_t 20 (?_) (by rfl) ?_ rfl ?_
  rotate_left
  ·go_simp
   try with_reducible rfl
  simp only [nz]
  refine pl_store (w' := o2W.setCells X 3 [.int .i64 x2]) (by rfl) (ex_put1 (n := 45) rfl rfl rfl o2.thX (by decide) iszI rfl rfl) rfl ?_
  refine pl_nil ?_
  have o2' := o2.s x2
  obtain ⟨o2V, ho2⟩ : ∃ W, o2W.setCells X 3 [.int .i64 x2] = W := ⟨_, rfl⟩
  rw [ho2] at o2' ⊢
  clear ho2 o2 on
  go_upto_region 9 with fail
  try simp only [Act.put]
  refine pl_begin ?_
  refine pl_t 21 (?_) (by rfl) ?_ rfl ?_
  rotate_left
  ·go_simp
   try with_reducible rfl
  simp only [nz]
  refine pl_call (d := some 22) (by rfl) (by go_simp; first | done | exact ⟨rfl, rfl⟩ | with_reducible rfl) rfl ?_
  refine (c3 o2V o2'.st).mono ?_
  rintro _ o3W ⟨rfl, hs9, hg9⟩
  have o3 := o2'.on _ hs9 hg9
  clear hs9 hg9
  refine ⟨_, rfl, ?_⟩
  simp only [nz]
  refine pl_t 23 (?_) (by rfl) ?_ rfl ?_
  rotate_left
  ·go_simp
   try with_reducible rfl
  simp only [nz]
  refine pl_store (w' := o3W.setCells X 2 [.int .i64 x3]) (by rfl) (ex_put1 (n := 45) rfl rfl rfl o3.thX (by decide) iszI rfl rfl) rfl ?_
  refine pl_nil ?_
  have o3' := o3.v x3
  obtain ⟨o3V, ho3⟩ : ∃ W, o3W.setCells X 2 [.int .i64 x3] = W := ⟨_, rfl⟩
  rw [ho3] at o3' ⊢
  clear ho3 o3 o2'
  clear c2 c3
  go_upto_region 10 with fail
  try simp only [Act.put]
  refine pl_begin ?_
  refine pl_t 24 (?_) (by rfl) ?_ rfl ?_
  rotate_left
  ·go_simp
   try with_reducible rfl
  simp only [nz]
  refine pl_call (d := some 25) (by rfl) (by go_simp; first | done | exact ⟨rfl, rfl⟩ | with_reducible rfl) rfl ?_
  refine (c4 o3V o3'.st).mono ?_
  rintro _ o4W ⟨x, rfl, hxx, hxa, hxb, hs9, hg9⟩
  have lX := o3'.lx
  have o4 := o3'.on _ hs9 hg9
  clear hs9 hg9
  refine ⟨_, rfl, ?_⟩
  simp only [nz]
  refine pl_t 26 (?_) (by rfl) ?_ rfl ?_
  rotate_left
  ·go_simp
   try with_reducible rfl
  simp only [nz]
  refine pl_store (w' := o4W.setCells X 4 [.bool q4, x.val]) (by rfl) (ex_put (cs := #[.bool q4, x.val]) rfl rfl rfl (there_part1 o4.thX (by simp)) iszBa (bat_all _ _)) rfl ?_
  refine pl_nil ?_
  have o5 := o4.b q4 x
  have hx5 : x.At RqE (o4W.setCells X 4 [.bool q4, x.val]) := hxa.put hxb (fun b hb => by omega)
  obtain ⟨o5V, ho5⟩ : ∃ W, o4W.setCells X 4 [.bool q4, x.val] = W := ⟨_, rfl⟩
  rw [ho5] at o5 hx5 ⊢
  clear ho5 o4 o3' c4
  obtain ⟨C, hC⟩ : ∃ C : Rc, C = ⟨1, 0, x3, x2, q4, x, Vt.zero, ⟨none, 0, []⟩, ⟨#[]⟩, ⟨none, 0, []⟩⟩ := ⟨_, rfl⟩
  replace o5 : KR w R X C s4 o5V := by rw [hC]; exact o5
  have hC1 : C.pure = { Rp.zero 1 with s := x2, v := x3, q := q4, rs := rs4 } := by rw [hC, ← hxx]; rfl
  have hC2 : C.rs = x ∧ C.cs = ⟨none, 0, []⟩ ∧ C.sg = ⟨none, 0, []⟩ := by rw [hC]; exact ⟨rfl, rfl, rfl⟩
  clear hC
  obtain ⟨qc, hqc⟩ : ∃ q, Hid (C.cells = q) := ⟨_, hide rfl⟩
  have hql : C.cells.length = 45 := Rc.len o5.ok
  have hq1 := Rc.one C
  have ho := o5.own
  rw [hqc.out] at hql hq1 ho
  have hiq : (Tryz.prog.info? 33).map (·.size) = some qc.length := by rw [hql]; exact iszRc
  have hth := o5.thX
  have hx1 := o5.xw
  have hx2 := o5.rx
  have hx3 := o5.lx
  go_upto_region 14 with fail
  try simp only [Act.put]
  refine pl_begin ?_
  refine pl_t 35 (.agg qc.toArray) (by rfl) (ex_mid rfl rfl ho Tryz.underlying33 rfl hiq) rfl ?_
  simp only [nz]
  refine pl_t 36 (?_) (by rfl) ?_ rfl ?_
  rotate_left
  ·go_simp
   try with_reducible rfl
  simp only [nz]
  refine pl_store (w' := o5V.setCells X 0 qc) (by rfl) (ex_put (cs := qc.toArray) rfl rfl rfl (by simpa [hql] using hth) (by simpa using hiq) (all_one hq1)) rfl ?_
  refine pl_t 3 (?_) (by rfl) ?_ rfl ?_
  rotate_left
  ·go_simp
   try with_reducible rfl
  simp only [nz]
  refine pl_nil ?_
  have hrs := run_loadVar_mid (P := Tryz.prog) (o5V.setCells X 0 qc) X 0 33 qc _ (World.rangeAt_setCells_same o5V X 0 qc (by rw [hql]; exact hth)) Tryz.underlying33 rfl hiq
  have HF : Hid (Ending.returned (.tuple #[.agg qc.toArray, .string ⟨#[]⟩]) = .returned (.tuple #[.agg C.cells.toArray, .string ⟨#[]⟩])) := hide (by rw [hqc.out])
  have hb9 : Below w.heap.size o5V (o5V.setCells X 0 qc) := below_sets hx1 qc 0 _ (Below.refl _ _)
  have HG := hide (o5.put (c' := C) o5.ok [] C.cells C.cells [] (by simp) (by simp) 0 rfl rfl (by rw [Rc.len o5.ok]; decide))
  rw [hqc.out] at HG
  have hx6 : x.At RqE (o5V.setCells X 0 qc) := hx5.put hxb (fun b hb => by omega)
  have HZ : Hid (C.pure = { Rp.zero 1 with s := x2, v := x3, q := q4, rs := rs4 } ∧ C.ct.ok ∧ C.rs.At RqE (o5V.setCells X 0 qc) ∧ C.cs = ⟨none, 0, []⟩ ∧ C.sg = ⟨none, 0, []⟩ ∧ C.rs.Bk (fun b => w.heap.size ≤ b)) := hide ⟨hC1, o5.ok, by rw [hC2.1]; exact hx6, hC2.2.1, hC2.2.2, by rw [hC2.1, ← HX.out]; exact hxb.mono (fun b hb => by omega)⟩
  clear hx5 hx6 hxa hxb hC1 hC2 lX hxx
  clear ho hth hx1 hx2 hx3 hb9 o5 hql hq1 hqc
  go_wp2_with fail
  refine bodyPost_ret (results_ct rfl _ _ _ rfl hrs) rfl ?_
  obtain ⟨z1, z2, z3, z4, z5, z6⟩ := HZ.out
  rw [HPP.out]
  exact ⟨C, HF.out, z1, z2, z3, z4, z5, z6, HG.out.st, HG.out.gb⟩
 have n1 : (k == 1) = false := by simpa using hk1
 go_upto_region 3 with fail
 try simp only [Act.put]
 refine pl_begin ?_
 refine pl_t 10 (.bool false) (by rfl) (by go_simp <;> (try simp [*])) rfl ?_
 simp only [nz]
 refine pl_t 9 (?_) (by rfl) ?_ rfl ?_
 rotate_left
 ·go_simp
  try with_reducible rfl
 simp only [nz]
 refine pl_nil ?_
 by_cases hk3 : k = 3
 ·have HP : PP = krV s1 := by rw [HP1.out, if_neg hk1, if_pos hk3]
  clear HP1
  subst hk3
  unfold krV at HP
  have c2 := fun w0 h0 => pnumS R 64 s1 w0 h0
  generalize xnuS 64 s1 = p at c2 HP
  obtain ⟨x2, s2⟩ := p
  simp only at c2 HP
  have c3 := fun w0 h0 => pnumS R 1099511627776 s2 w0 h0
  generalize xnuS 1099511627776 s2 = p at c3 HP
  obtain ⟨x3, s3⟩ := p
  simp only at c3 HP
  have HPP := hide HP
  clear HP l1 hk1
  go_upto_region 4 with fail
  try simp only [Act.put]
  refine pl_begin ?_
  refine pl_t 12 (.bool true) (by rfl) (by go_simp <;> (try simp [*])) rfl ?_
  simp only [nz]
  refine pl_t 11 (?_) (by rfl) ?_ rfl ?_
  rotate_left
  ·go_simp
   try with_reducible rfl
  simp only [nz]
  refine pl_nil ?_
  go_upto_region 11 with fail
  try simp only [Act.put]
  refine pl_begin ?_
  refine pl_t 27 (?_) (by rfl) ?_ rfl ?_
  rotate_left
  ·go_simp
   try with_reducible rfl
  simp only [nz]
  refine pl_call (d := some 28) (by rfl) (by go_simp; first | done | exact ⟨rfl, rfl⟩ | with_reducible rfl) rfl ?_
  refine (c2 o1V on.st).mono ?_
  rintro _ o2W ⟨rfl, hs9, hg9⟩
  have o2 := on.on _ hs9 hg9
  clear hs9 hg9
  refine ⟨_, rfl, ?_⟩
  simp only [nz]
  refine pl_t 29 (?_) (by rfl) ?_ rfl ?_
  rotate_left
  ·go_simp
   try with_reducible rfl
  simp only [nz]
  refine pl_store (w' := o2W.setCells X 1 [.int .i64 x2]) (by rfl) (ex_put1 (n := 45) rfl rfl rfl o2.thX (by decide) iszI rfl rfl) rfl ?_
  refine pl_nil ?_
  have o2' := o2.l x2
  obtain ⟨o2V, ho2⟩ : ∃ W, o2W.setCells X 1 [.int .i64 x2] = W := ⟨_, rfl⟩
  rw [ho2] at o2' ⊢
  clear ho2 o2 on
  go_upto_region 12 with fail
  try simp only [Act.put]
  refine pl_begin ?_
  refine pl_t 30 (?_) (by rfl) ?_ rfl ?_
  rotate_left
  ·go_simp
   try with_reducible rfl
  simp only [nz]
  refine pl_call (d := some 31) (by rfl) (by go_simp; first | done | exact ⟨rfl, rfl⟩ | with_reducible rfl) rfl ?_
  refine (c3 o2V o2'.st).mono ?_
  rintro _ o3W ⟨rfl, hs9, hg9⟩
  have o3 := o2'.on _ hs9 hg9
  clear hs9 hg9
  refine ⟨_, rfl, ?_⟩
  simp only [nz]
  refine pl_t 32 (?_) (by rfl) ?_ rfl ?_
  rotate_left
  ·go_simp
   try with_reducible rfl
  simp only [nz]
  refine pl_store (w' := o3W.setCells X 2 [.int .i64 x3]) (by rfl) (ex_put1 (n := 45) rfl rfl rfl o3.thX (by decide) iszI rfl rfl) rfl ?_
  refine pl_nil ?_
  have o3' := o3.v x3
  obtain ⟨o3V, ho3⟩ : ∃ W, o3W.setCells X 2 [.int .i64 x3] = W := ⟨_, rfl⟩
  rw [ho3] at o3' ⊢
  clear ho3 o3 o2'
  clear c2 c3
  have o5 := o3'
  clear o3'
  obtain ⟨C, hC⟩ : ∃ C : Rc, C = ⟨3, x2, x3, 0, false, ⟨none, 0, []⟩, Vt.zero, ⟨none, 0, []⟩, ⟨#[]⟩, ⟨none, 0, []⟩⟩ := ⟨_, rfl⟩
  replace o5 : KR w R X C s3 o3V := by rw [hC]; exact o5
  have hC1 : C.pure = { Rp.zero 3 with l := x2, v := x3 } := by rw [hC]; rfl
  have hC2 : C.rs = ⟨none, 0, []⟩ ∧ C.cs = ⟨none, 0, []⟩ ∧ C.sg = ⟨none, 0, []⟩ := by rw [hC]; exact ⟨rfl, rfl, rfl⟩
  clear hC
  obtain ⟨qc, hqc⟩ : ∃ q, Hid (C.cells = q) := ⟨_, hide rfl⟩
  have hql : C.cells.length = 45 := Rc.len o5.ok
  have hq1 := Rc.one C
  have ho := o5.own
  rw [hqc.out] at hql hq1 ho
  have hiq : (Tryz.prog.info? 33).map (·.size) = some qc.length := by rw [hql]; exact iszRc
  have hth := o5.thX
  have hx1 := o5.xw
  have hx2 := o5.rx
  have hx3 := o5.lx
  go_upto_region 14 with fail
  try simp only [Act.put]
  refine pl_begin ?_
  refine pl_t 35 (.agg qc.toArray) (by rfl) (ex_mid rfl rfl ho Tryz.underlying33 rfl hiq) rfl ?_
  simp only [nz]
  refine pl_t 36 (?_) (by rfl) ?_ rfl ?_
  rotate_left
  ·go_simp
   try with_reducible rfl
  simp only [nz]
  refine pl_store (w' := o3V.setCells X 0 qc) (by rfl) (ex_put (cs := qc.toArray) rfl rfl rfl (by simpa [hql] using hth) (by simpa using hiq) (all_one hq1)) rfl ?_
  refine pl_t 3 (?_) (by rfl) ?_ rfl ?_
  rotate_left
  ·go_simp
   try with_reducible rfl
  simp only [nz]
  refine pl_nil ?_
  have hrs := run_loadVar_mid (P := Tryz.prog) (o3V.setCells X 0 qc) X 0 33 qc _ (World.rangeAt_setCells_same o3V X 0 qc (by rw [hql]; exact hth)) Tryz.underlying33 rfl hiq
  have HF : Hid (Ending.returned (.tuple #[.agg qc.toArray, .string ⟨#[]⟩]) = .returned (.tuple #[.agg C.cells.toArray, .string ⟨#[]⟩])) := hide (by rw [hqc.out])
  have hb9 : Below w.heap.size o3V (o3V.setCells X 0 qc) := below_sets hx1 qc 0 _ (Below.refl _ _)
  have HG := hide (o5.put (c' := C) o5.ok [] C.cells C.cells [] (by simp) (by simp) 0 rfl rfl (by rw [Rc.len o5.ok]; decide))
  rw [hqc.out] at HG
  have HZ : Hid (C.pure = { Rp.zero 3 with l := x2, v := x3 } ∧ C.ct.ok ∧ C.rs.At RqE (o3V.setCells X 0 qc) ∧ C.cs = ⟨none, 0, []⟩ ∧ C.sg = ⟨none, 0, []⟩ ∧ C.rs.Bk (fun b => w.heap.size ≤ b)) := hide ⟨hC1, o5.ok, by rw [hC2.1]; exact RowsAt.none, hC2.2.1, hC2.2.2, by rw [hC2.1]; exact fun b h1 _ => absurd rfl h1⟩
  clear hC1 hC2
  clear ho hth hx1 hx2 hx3 hb9 o5 hql hq1 hqc
  go_wp2_with fail
  refine bodyPost_ret (results_ct rfl _ _ _ rfl hrs) rfl ?_
  obtain ⟨z1, z2, z3, z4, z5, z6⟩ := HZ.out
  rw [HPP.out]
  exact ⟨C, HF.out, z1, z2, z3, z4, z5, z6, HG.out.st, HG.out.gb⟩
 have n3 : (k == 3) = false := by simpa using hk3
 go_upto_region 4 with fail
 try simp only [Act.put]
 refine pl_begin ?_
 refine pl_t 12 (.bool false) (by rfl) (by go_simp <;> (try simp [*])) rfl ?_
 simp only [nz]
 refine pl_t 11 (?_) (by rfl) ?_ rfl ?_
 rotate_left
 ·go_simp
  try with_reducible rfl
 simp only [nz]
 refine pl_nil ?_
 by_cases hk2 : k = 2
 ·have HP : PP = krT k s1 := by rw [HP1.out, if_neg hk1, if_neg hk3, if_pos (.inl hk2)]
  clear HP1
  have n2 : (k == 2) = true := by simpa using hk2
  clear hk1 hk3 hk2
  go_upto_region 5 with fail
  try simp only [Act.put]
  refine pl_begin ?_
  refine pl_t 14 (.bool true) (by rfl) (by go_simp <;> (try simp [*])) rfl ?_
  simp only [nz]
  refine pl_t 13 (?_) (by rfl) ?_ rfl ?_
  rotate_left
  ·go_simp
   try with_reducible rfl
  simp only [nz]
  refine pl_nil ?_
  unfold krT at HP
  have c2 := fun w0 h0 => ptextS R 4194304 s1 w0 h0
  generalize xtxS 4194304 s1 = p at c2 HP
  obtain ⟨tx, s2⟩ := p
  simp only at c2 HP
  have HPP := hide HP
  clear HP l1
  go_upto_region 13 with fail
  try simp only [Act.put]
  refine pl_begin ?_
  refine pl_t 33 (?_) (by rfl) ?_ rfl ?_
  rotate_left
  ·go_simp
   try with_reducible rfl
  simp only [nz]
  refine pl_call (d := some 34) (by rfl) (by go_simp; first | done | exact ⟨rfl, rfl⟩ | with_reducible rfl) rfl ?_
  refine (c2 o1V on.st).mono ?_
  rintro _ o2W ⟨rfl, hs9, hg9⟩
  have o5 := on.on _ hs9 hg9
  clear hs9 hg9 on c2
  refine ⟨_, rfl, ?_⟩
  simp only [nz]
  refine pl_t 3 (?_) (by rfl) ?_ rfl ?_
  rotate_left
  ·go_simp
   try with_reducible rfl
  simp only [nz]
  refine pl_nil ?_
  obtain ⟨C, hC⟩ : ∃ C : Rc, C = Rc.zero k := ⟨_, rfl⟩
  replace o5 : KR w R X C s2 o2W := by rw [hC]; exact o5
  have hC1 : C.pure = Rp.zero k := by rw [hC]; rfl
  have hC2 : C.rs = ⟨none, 0, []⟩ ∧ C.cs = ⟨none, 0, []⟩ ∧ C.sg = ⟨none, 0, []⟩ := by rw [hC]; exact ⟨rfl, rfl, rfl⟩
  clear hC
  obtain ⟨qc, hqc⟩ : ∃ q, Hid (C.cells = q) := ⟨_, hide rfl⟩
  have hql : C.cells.length = 45 := Rc.len o5.ok
  have hq1 := Rc.one C
  have ho := o5.own
  rw [hqc.out] at hql hq1 ho
  have hiq : (Tryz.prog.info? 33).map (·.size) = some qc.length := by rw [hql]; exact iszRc
  have hth := o5.thX
  have hx1 := o5.xw
  have hx2 := o5.rx
  have hx3 := o5.lx
  go_upto_region 14 with fail
  try simp only [Act.put]
  refine pl_begin ?_
  refine pl_t 35 (.agg qc.toArray) (by rfl) (ex_mid rfl rfl ho Tryz.underlying33 rfl hiq) rfl ?_
  simp only [nz]
  refine pl_t 36 (?_) (by rfl) ?_ rfl ?_
  rotate_left
  ·go_simp
   try with_reducible rfl
  simp only [nz]
  refine pl_store (w' := o2W.setCells X 0 qc) (by rfl) (ex_put (cs := qc.toArray) rfl rfl rfl (by simpa [hql] using hth) (by simpa using hiq) (all_one hq1)) rfl ?_
  refine pl_t 3 (?_) (by rfl) ?_ rfl ?_
  rotate_left
  ·go_simp
   try with_reducible rfl
  simp only [nz]
  refine pl_nil ?_
  have hrs := run_loadVar_mid (P := Tryz.prog) (o2W.setCells X 0 qc) X 0 33 qc _ (World.rangeAt_setCells_same o2W X 0 qc (by rw [hql]; exact hth)) Tryz.underlying33 rfl hiq
  have HF : Hid (Ending.returned (.tuple #[.agg qc.toArray, .string tx]) = .returned (.tuple #[.agg C.cells.toArray, .string tx])) := hide (by rw [hqc.out])
  have hb9 : Below w.heap.size o2W (o2W.setCells X 0 qc) := below_sets hx1 qc 0 _ (Below.refl _ _)
  have HG := hide (o5.put (c' := C) o5.ok [] C.cells C.cells [] (by simp) (by simp) 0 rfl rfl (by rw [Rc.len o5.ok]; decide))
  rw [hqc.out] at HG
  have HZ : Hid (C.pure = Rp.zero k ∧ C.ct.ok ∧ C.rs.At RqE (o2W.setCells X 0 qc) ∧ C.cs = ⟨none, 0, []⟩ ∧ C.sg = ⟨none, 0, []⟩ ∧ C.rs.Bk (fun b => w.heap.size ≤ b)) := hide ⟨hC1, o5.ok, by rw [hC2.1]; exact RowsAt.none, hC2.2.1, hC2.2.2, by rw [hC2.1]; exact fun b h1 _ => absurd rfl h1⟩
  clear hC1 hC2
  clear ho hth hx1 hx2 hx3 hb9 o5 hql hq1 hqc
  go_wp2_with fail
  refine bodyPost_ret (results_ct rfl _ _ _ rfl hrs) rfl ?_
  obtain ⟨z1, z2, z3, z4, z5, z6⟩ := HZ.out
  rw [HPP.out]
  exact ⟨C, HF.out, z1, z2, z3, z4, z5, z6, HG.out.st, HG.out.gb⟩
 have n2 : (k == 2) = false := by simpa using hk2
 go_upto_region 5 with fail
 try simp only [Act.put]
 refine pl_begin ?_
 refine pl_t 14 (.bool false) (by rfl) (by go_simp <;> (try simp [*])) rfl ?_
 simp only [nz]
 refine pl_t 13 (?_) (by rfl) ?_ rfl ?_
 rotate_left
 ·go_simp
  try with_reducible rfl
 simp only [nz]
 refine pl_nil ?_
 by_cases hk4 : k = 4
 ·have HP : PP = krT k s1 := by rw [HP1.out, if_neg hk1, if_neg hk3, if_pos (.inr (.inl hk4))]
  clear HP1
  have n4 : (k == 4) = true := by simpa using hk4
  clear hk1 hk3 hk2 hk4
  go_upto_region 6 with fail
  try simp only [Act.put]
  refine pl_begin ?_
  refine pl_t 15 (.bool true) (by rfl) (by go_simp <;> (try simp [*])) rfl ?_
  simp only [nz]
  refine pl_t 13 (?_) (by rfl) ?_ rfl ?_
  rotate_left
  ·go_simp
   try with_reducible rfl
  simp only [nz]
  refine pl_nil ?_
  unfold krT at HP
  have c2 := fun w0 h0 => ptextS R 4194304 s1 w0 h0
  generalize xtxS 4194304 s1 = p at c2 HP
  obtain ⟨tx, s2⟩ := p
  simp only at c2 HP
  have HPP := hide HP
  clear HP l1
  go_upto_region 13 with fail
  try simp only [Act.put]
  refine pl_begin ?_
  refine pl_t 33 (?_) (by rfl) ?_ rfl ?_
  rotate_left
  ·go_simp
   try with_reducible rfl
  simp only [nz]
  refine pl_call (d := some 34) (by rfl) (by go_simp; first | done | exact ⟨rfl, rfl⟩ | with_reducible rfl) rfl ?_
  refine (c2 o1V on.st).mono ?_
  rintro _ o2W ⟨rfl, hs9, hg9⟩
  have o5 := on.on _ hs9 hg9
  clear hs9 hg9 on c2
  refine ⟨_, rfl, ?_⟩
  simp only [nz]
  refine pl_t 3 (?_) (by rfl) ?_ rfl ?_
  rotate_left
  ·go_simp
   try with_reducible rfl
  simp only [nz]
  refine pl_nil ?_
  obtain ⟨C, hC⟩ : ∃ C : Rc, C = Rc.zero k := ⟨_, rfl⟩
  replace o5 : KR w R X C s2 o2W := by rw [hC]; exact o5
  have hC1 : C.pure = Rp.zero k := by rw [hC]; rfl
  have hC2 : C.rs = ⟨none, 0, []⟩ ∧ C.cs = ⟨none, 0, []⟩ ∧ C.sg = ⟨none, 0, []⟩ := by rw [hC]; exact ⟨rfl, rfl, rfl⟩
  clear hC
  obtain ⟨qc, hqc⟩ : ∃ q, Hid (C.cells = q) := ⟨_, hide rfl⟩
  have hql : C.cells.length = 45 := Rc.len o5.ok
  have hq1 := Rc.one C
  have ho := o5.own
  rw [hqc.out] at hql hq1 ho
  have hiq : (Tryz.prog.info? 33).map (·.size) = some qc.length := by rw [hql]; exact iszRc
  have hth := o5.thX
  have hx1 := o5.xw
  have hx2 := o5.rx
  have hx3 := o5.lx
  go_upto_region 14 with fail
  try simp only [Act.put]
  refine pl_begin ?_
  refine pl_t 35 (.agg qc.toArray) (by rfl) (ex_mid rfl rfl ho Tryz.underlying33 rfl hiq) rfl ?_
  simp only [nz]
  refine pl_t 36 (?_) (by rfl) ?_ rfl ?_
  rotate_left
  ·go_simp
   try with_reducible rfl
  simp only [nz]
  refine pl_store (w' := o2W.setCells X 0 qc) (by rfl) (ex_put (cs := qc.toArray) rfl rfl rfl (by simpa [hql] using hth) (by simpa using hiq) (all_one hq1)) rfl ?_
  refine pl_t 3 (?_) (by rfl) ?_ rfl ?_
  rotate_left
  ·go_simp
   try with_reducible rfl
  simp only [nz]
  refine pl_nil ?_
  have hrs := run_loadVar_mid (P := Tryz.prog) (o2W.setCells X 0 qc) X 0 33 qc _ (World.rangeAt_setCells_same o2W X 0 qc (by rw [hql]; exact hth)) Tryz.underlying33 rfl hiq
  have HF : Hid (Ending.returned (.tuple #[.agg qc.toArray, .string tx]) = .returned (.tuple #[.agg C.cells.toArray, .string tx])) := hide (by rw [hqc.out])
  have hb9 : Below w.heap.size o2W (o2W.setCells X 0 qc) := below_sets hx1 qc 0 _ (Below.refl _ _)
  have HG := hide (o5.put (c' := C) o5.ok [] C.cells C.cells [] (by simp) (by simp) 0 rfl rfl (by rw [Rc.len o5.ok]; decide))
  rw [hqc.out] at HG
  have HZ : Hid (C.pure = Rp.zero k ∧ C.ct.ok ∧ C.rs.At RqE (o2W.setCells X 0 qc) ∧ C.cs = ⟨none, 0, []⟩ ∧ C.sg = ⟨none, 0, []⟩ ∧ C.rs.Bk (fun b => w.heap.size ≤ b)) := hide ⟨hC1, o5.ok, by rw [hC2.1]; exact RowsAt.none, hC2.2.1, hC2.2.2, by rw [hC2.1]; exact fun b h1 _ => absurd rfl h1⟩
  clear hC1 hC2
  clear ho hth hx1 hx2 hx3 hb9 o5 hql hq1 hqc
  go_wp2_with fail
  refine bodyPost_ret (results_ct rfl _ _ _ rfl hrs) rfl ?_
  obtain ⟨z1, z2, z3, z4, z5, z6⟩ := HZ.out
  rw [HPP.out]
  exact ⟨C, HF.out, z1, z2, z3, z4, z5, z6, HG.out.st, HG.out.gb⟩
 have n4 : (k == 4) = false := by simpa using hk4
 go_upto_region 6 with fail
 try simp only [Act.put]
 refine pl_begin ?_
 refine pl_t 15 (.bool false) (by rfl) (by go_simp <;> (try simp [*])) rfl ?_
 simp only [nz]
 refine pl_t 13 (?_) (by rfl) ?_ rfl ?_
 rotate_left
 ·go_simp
  try with_reducible rfl
 simp only [nz]
 refine pl_nil ?_
 by_cases hk5 : k = 5
 ·have HP : PP = krT k s1 := by rw [HP1.out, if_neg hk1, if_neg hk3, if_pos (.inr (.inr hk5))]
  clear HP1
  have n5 : (k == 5) = true := by simpa using hk5
  clear hk1 hk3 hk2 hk4 hk5
  go_upto_region 7 with fail
  try simp only [Act.put]
  refine pl_begin ?_
  refine pl_t 17 (.bool true) (by rfl) (by go_simp <;> (try simp [*])) rfl ?_
  simp only [nz]
  refine pl_t 16 (?_) (by rfl) ?_ rfl ?_
  rotate_left
  ·go_simp
   try with_reducible rfl
  simp only [nz]
  refine pl_nil ?_
  unfold krT at HP
  have c2 := fun w0 h0 => ptextS R 4194304 s1 w0 h0
  generalize xtxS 4194304 s1 = p at c2 HP
  obtain ⟨tx, s2⟩ := p
  simp only at c2 HP
  have HPP := hide HP
  clear HP l1
  go_upto_region 13 with fail
  try simp only [Act.put]
  refine pl_begin ?_
  refine pl_t 33 (?_) (by rfl) ?_ rfl ?_
  rotate_left
  ·go_simp
   try with_reducible rfl
  simp only [nz]
  refine pl_call (d := some 34) (by rfl) (by go_simp; first | done | exact ⟨rfl, rfl⟩ | with_reducible rfl) rfl ?_
  refine (c2 o1V on.st).mono ?_
  rintro _ o2W ⟨rfl, hs9, hg9⟩
  have o5 := on.on _ hs9 hg9
  clear hs9 hg9 on c2
  refine ⟨_, rfl, ?_⟩
  simp only [nz]
  refine pl_t 3 (?_) (by rfl) ?_ rfl ?_
  rotate_left
  ·go_simp
   try with_reducible rfl
  simp only [nz]
  refine pl_nil ?_
  obtain ⟨C, hC⟩ : ∃ C : Rc, C = Rc.zero k := ⟨_, rfl⟩
  replace o5 : KR w R X C s2 o2W := by rw [hC]; exact o5
  have hC1 : C.pure = Rp.zero k := by rw [hC]; rfl
  have hC2 : C.rs = ⟨none, 0, []⟩ ∧ C.cs = ⟨none, 0, []⟩ ∧ C.sg = ⟨none, 0, []⟩ := by rw [hC]; exact ⟨rfl, rfl, rfl⟩
  clear hC
  obtain ⟨qc, hqc⟩ : ∃ q, Hid (C.cells = q) := ⟨_, hide rfl⟩
  have hql : C.cells.length = 45 := Rc.len o5.ok
  have hq1 := Rc.one C
  have ho := o5.own
  rw [hqc.out] at hql hq1 ho
  have hiq : (Tryz.prog.info? 33).map (·.size) = some qc.length := by rw [hql]; exact iszRc
  have hth := o5.thX
  have hx1 := o5.xw
  have hx2 := o5.rx
  have hx3 := o5.lx
  go_upto_region 14 with fail
  try simp only [Act.put]
  refine pl_begin ?_
  refine pl_t 35 (.agg qc.toArray) (by rfl) (ex_mid rfl rfl ho Tryz.underlying33 rfl hiq) rfl ?_
  simp only [nz]
  refine pl_t 36 (?_) (by rfl) ?_ rfl ?_
  rotate_left
  ·go_simp
   try with_reducible rfl
  simp only [nz]
  refine pl_store (w' := o2W.setCells X 0 qc) (by rfl) (ex_put (cs := qc.toArray) rfl rfl rfl (by simpa [hql] using hth) (by simpa using hiq) (all_one hq1)) rfl ?_
  refine pl_t 3 (?_) (by rfl) ?_ rfl ?_
  rotate_left
  ·go_simp
   try with_reducible rfl
  simp only [nz]
  refine pl_nil ?_
  have hrs := run_loadVar_mid (P := Tryz.prog) (o2W.setCells X 0 qc) X 0 33 qc _ (World.rangeAt_setCells_same o2W X 0 qc (by rw [hql]; exact hth)) Tryz.underlying33 rfl hiq
  have HF : Hid (Ending.returned (.tuple #[.agg qc.toArray, .string tx]) = .returned (.tuple #[.agg C.cells.toArray, .string tx])) := hide (by rw [hqc.out])
  have hb9 : Below w.heap.size o2W (o2W.setCells X 0 qc) := below_sets hx1 qc 0 _ (Below.refl _ _)
  have HG := hide (o5.put (c' := C) o5.ok [] C.cells C.cells [] (by simp) (by simp) 0 rfl rfl (by rw [Rc.len o5.ok]; decide))
  rw [hqc.out] at HG
  have HZ : Hid (C.pure = Rp.zero k ∧ C.ct.ok ∧ C.rs.At RqE (o2W.setCells X 0 qc) ∧ C.cs = ⟨none, 0, []⟩ ∧ C.sg = ⟨none, 0, []⟩ ∧ C.rs.Bk (fun b => w.heap.size ≤ b)) := hide ⟨hC1, o5.ok, by rw [hC2.1]; exact RowsAt.none, hC2.2.1, hC2.2.2, by rw [hC2.1]; exact fun b h1 _ => absurd rfl h1⟩
  clear hC1 hC2
  clear ho hth hx1 hx2 hx3 hb9 o5 hql hq1 hqc
  go_wp2_with fail
  refine bodyPost_ret (results_ct rfl _ _ _ rfl hrs) rfl ?_
  obtain ⟨z1, z2, z3, z4, z5, z6⟩ := HZ.out
  rw [HPP.out]
  exact ⟨C, HF.out, z1, z2, z3, z4, z5, z6, HG.out.st, HG.out.gb⟩
 have n5 : (k == 5) = false := by simpa using hk5
 have HPP : Hid (PP = ((Rp.zero k, ⟨#[]⟩), s1)) := hide (by rw [HP1.out, if_neg hk1, if_neg hk3, if_neg (by omega)])
 clear HP1 hk1 hk3 hk2 hk4 hk5 l1
 go_upto_region 7 with fail
 try simp only [Act.put]
 refine pl_begin ?_
 refine pl_t 17 (.bool false) (by rfl) (by go_simp <;> (try simp [*])) rfl ?_
 simp only [nz]
 refine pl_t 16 (?_) (by rfl) ?_ rfl ?_
 rotate_left
 ·go_simp
  try with_reducible rfl
 simp only [nz]
 refine pl_nil ?_
 have o5 := on
 clear on
 obtain ⟨C, hC⟩ : ∃ C : Rc, C = Rc.zero k := ⟨_, rfl⟩
 replace o5 : KR w R X C s1 o1V := by rw [hC]; exact o5
 have hC1 : C.pure = Rp.zero k := by rw [hC]; rfl
 have hC2 : C.rs = ⟨none, 0, []⟩ ∧ C.cs = ⟨none, 0, []⟩ ∧ C.sg = ⟨none, 0, []⟩ := by rw [hC]; exact ⟨rfl, rfl, rfl⟩
 clear hC
 obtain ⟨qc, hqc⟩ : ∃ q, Hid (C.cells = q) := ⟨_, hide rfl⟩
 have hql : C.cells.length = 45 := Rc.len o5.ok
 have hq1 := Rc.one C
 have ho := o5.own
 rw [hqc.out] at hql hq1 ho
 have hiq : (Tryz.prog.info? 33).map (·.size) = some qc.length := by rw [hql]; exact iszRc
 have hth := o5.thX
 have hx1 := o5.xw
 have hx2 := o5.rx
 have hx3 := o5.lx
 go_upto_region 14 with fail
 try simp only [Act.put]
 refine pl_begin ?_
 refine pl_t 35 (.agg qc.toArray) (by rfl) (ex_mid rfl rfl ho Tryz.underlying33 rfl hiq) rfl ?_
 simp only [nz]
 refine pl_t 36 (?_) (by rfl) ?_ rfl ?_
 rotate_left
 ·go_simp
  try with_reducible rfl
 simp only [nz]
 refine pl_store (w' := o1V.setCells X 0 qc) (by rfl) (ex_put (cs := qc.toArray) rfl rfl rfl (by simpa [hql] using hth) (by simpa using hiq) (all_one hq1)) rfl ?_
 refine pl_t 3 (?_) (by rfl) ?_ rfl ?_
 rotate_left
 ·go_simp
  try with_reducible rfl
 simp only [nz]
 refine pl_nil ?_
 have hrs := run_loadVar_mid (P := Tryz.prog) (o1V.setCells X 0 qc) X 0 33 qc _ (World.rangeAt_setCells_same o1V X 0 qc (by rw [hql]; exact hth)) Tryz.underlying33 rfl hiq
 have HF : Hid (Ending.returned (.tuple #[.agg qc.toArray, .string ⟨#[]⟩]) = .returned (.tuple #[.agg C.cells.toArray, .string ⟨#[]⟩])) := hide (by rw [hqc.out])
 have hb9 : Below w.heap.size o1V (o1V.setCells X 0 qc) := below_sets hx1 qc 0 _ (Below.refl _ _)
 have HG := hide (o5.put (c' := C) o5.ok [] C.cells C.cells [] (by simp) (by simp) 0 rfl rfl (by rw [Rc.len o5.ok]; decide))
 rw [hqc.out] at HG
 have HZ : Hid (C.pure = Rp.zero k ∧ C.ct.ok ∧ C.rs.At RqE (o1V.setCells X 0 qc) ∧ C.cs = ⟨none, 0, []⟩ ∧ C.sg = ⟨none, 0, []⟩ ∧ C.rs.Bk (fun b => w.heap.size ≤ b)) := hide ⟨hC1, o5.ok, by rw [hC2.1]; exact RowsAt.none, hC2.2.1, hC2.2.2, by rw [hC2.1]; exact fun b h1 _ => absurd rfl h1⟩
 clear hC1 hC2
 clear ho hth hx1 hx2 hx3 hb9 o5 hql hq1 hqc
 go_wp2_with fail
 refine bodyPost_ret (results_ct rfl _ _ _ rfl hrs) rfl ?_
 obtain ⟨z1, z2, z3, z4, z5, z6⟩ := HZ.out
 rw [HPP.out]
 exact ⟨C, HF.out, z1, z2, z3, z4, z5, z6, HG.out.st, HG.out.gb⟩
end Go.Proofs.YtinndbipomlokaaGreat
