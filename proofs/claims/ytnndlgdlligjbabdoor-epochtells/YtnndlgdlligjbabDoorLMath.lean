/- Plain mathematics of leaders: configs, penalties, who owns which bucket. Imports nothing of the translation. -/
namespace Go.Proofs.YtnndlgdlligjbabDoor.Ld
structure Cfg where
  n : Int
  cl : Int
  wi : Int
  bu : Int
  ca : Int
  sl : Int
  rq : Int
  ti : Int
  pe : Int
  la : Int
def goodB (n : Int) : Bool := decide (4 ≤ n ∧ n ≤ 64 ∧ n % 3 = 1)
theorem goodB_true {n : Int} (h : goodB n = true) : 4 ≤ n ∧ n ≤ 64 ∧ n % 3 = 1 := by simpa [goodB] using h
theorem goodB_false {n : Int} (h : goodB n = false) : ¬ (4 ≤ n ∧ n ≤ 64 ∧ n % 3 = 1) := by simpa [goodB] using h
theorem goodB_mk {n : Int} (h : 4 ≤ n ∧ n ≤ 64 ∧ n % 3 = 1) : goodB n = true := by simpa [goodB] using h
theorem goodB_no {n : Int} (h : ¬ (4 ≤ n ∧ n ≤ 64 ∧ n % 3 = 1)) : goodB n = false := by simpa [goodB] using h
def faultsI (n : Int) : Int := if goodB n then n / 3 else 0
def someI (n : Int) : Int := if goodB n then n / 3 + 1 else 0
theorem faultsI_g {n : Int} (h : goodB n = true) : faultsI n = n / 3 := by simp [faultsI, h]
theorem someI_g {n : Int} (h : goodB n = true) : someI n = n / 3 + 1 := by simp [someI, h]
theorem faultsI_b {n : Int} (h : goodB n = false) : faultsI n = 0 := by simp [faultsI, h]
theorem someI_b {n : Int} (h : goodB n = false) : someI n = 0 := by simp [someI, h]
def inB (x l m : Int) : Bool := decide (l ≤ x ∧ x ≤ m)
theorem inB_true {x l m : Int} (h : inB x l m = true) : l ≤ x ∧ x ≤ m := by simpa [inB] using h
theorem inB_false {x l m : Int} (h : inB x l m = false) : ¬ (l ≤ x ∧ x ≤ m) := by simpa [inB] using h
theorem inB_mk {x l m : Int} (h : l ≤ x ∧ x ≤ m) : inB x l m = true := by simpa [inB] using h
theorem inB_no {x l m : Int} (h : ¬ (l ≤ x ∧ x ≤ m)) : inB x l m = false := by simpa [inB] using h
def goodC (c : Cfg) : Bool := goodB c.n && inB c.cl 1 8 && inB c.wi 1 64 && inB c.bu 1 c.n && inB c.ca 1 16 && inB c.sl 1 4 && inB c.rq 1 4 && inB c.ti 12 64 && inB c.pe 0 8 && inB c.la 1 1048576
def errC (c : Cfg) : Int := if goodC c then 0 else 110
def mayC (c : Cfg) (e : Int) : Bool := goodC c && inB e 1 1048576
/-- what a good config says -/
structure CfgOk (c : Cfg) (N B : Nat) : Prop where
  n : c.n = (N : Int)
  b : c.bu = (B : Int)
  n4 : 4 ≤ N
  n64 : N ≤ 64
  n3 : N % 3 = 1
  b1 : 1 ≤ B
  bn : B ≤ N
  sl : 1 ≤ c.sl ∧ c.sl ≤ 4
  pe : 0 ≤ c.pe ∧ c.pe ≤ 8
  la : 1 ≤ c.la ∧ c.la ≤ 1048576
theorem cfgOk {c : Cfg} (h : goodC c = true) : ∃ N B, CfgOk c N B := by
  simp only [goodC, Bool.and_eq_true] at h
  obtain ⟨⟨⟨⟨⟨⟨⟨⟨⟨h1, h2⟩, h3⟩, h4⟩, h5⟩, h6⟩, h7⟩, h8⟩, h9⟩, h10⟩ := h
  have k1 := goodB_true h1
  have k4 := inB_true h4
  exact ⟨c.n.toNat, c.bu.toNat, by omega, by omega, by omega, by omega, by omega, by omega, by omega, inB_true h6, inB_true h9, inB_true h10⟩
theorem mayC_ok {c : Cfg} {e : Int} (h : mayC c e = true) : goodC c = true ∧ ∃ N B E : Nat, CfgOk c N B ∧ e = (E : Int) ∧ 1 ≤ E ∧ E ≤ 1048576 := by
  simp only [mayC, Bool.and_eq_true] at h
  have k := inB_true h.2
  obtain ⟨N, B, hh⟩ := cfgOk h.1
  exact ⟨h.1, N, B, e.toNat, hh, by omega, by omega, by omega⟩
/-- a node's penalty -/
def penI (pen : List Int) (k : Nat) : Int := pen[k]?.getD 0
def freeU (pen : List Int) (e : Int) (k : Nat) : List Nat := (List.range k).filter fun i => decide (penI pen i ≤ e)
def listN (N : Nat) (e : Int) (pen : List Int) : List Nat := if (freeU pen e N).length < N / 3 + 1 then List.range N else freeU pen e N
def listL (c : Cfg) (e : Int) (pen : List Int) : List Nat := if mayC c e then listN c.n.toNat e pen else []
theorem range_snoc (k : Nat) : List.range (k + 1) = List.range k ++ [k] := List.range_succ
theorem filter_yes (p : Nat → Bool) (k : Nat) (h : p k = true) : (List.range (k + 1)).filter p = (List.range k).filter p ++ [k] := by
  rw [List.range_succ, List.filter_append]; simp [h]
theorem filter_no (p : Nat → Bool) (k : Nat) (h : p k = false) : (List.range (k + 1)).filter p = (List.range k).filter p := by
  rw [List.range_succ, List.filter_append]; simp [h]
theorem filter_le (p : Nat → Bool) (k : Nat) : ((List.range k).filter p).length ≤ k := by
  have := List.length_filter_le p (List.range k); simpa using this
/-- the nodes from one on, round -/
def roundF (N f k : Nat) : List Nat := (List.range k).map fun i => (f + i) % N
theorem roundF_len (N f k : Nat) : (roundF N f k).length = k := by simp [roundF]
theorem roundF_snoc (N f k : Nat) : roundF N f (k + 1) = roundF N f k ++ [(f + k) % N] := by simp [roundF, List.range_succ]
theorem roundF_take (N f k m : Nat) (h : k ≤ m) : (roundF N f m).take k = roundF N f k := by
  simp only [roundF, ← List.map_take, List.take_range, Nat.min_eq_left h]
theorem roundF_prefix (N f k m : Nat) (h : k ≤ m) : roundF N f k <+: roundF N f m := by
  rw [← roundF_take N f k m h]; exact List.take_prefix _ _
theorem roundF_zero (N : Nat) : roundF N 0 N = List.range N := by
  unfold roundF
  conv => rhs; rw [← List.map_id (List.range N)]
  apply List.map_congr_left
  intro i hi
  simp at hi ⊢
  exact Nat.mod_eq_of_lt hi
/-- the first one from there on that leads -/
def ownO (N : Nat) (p : Nat → Bool) (f : Nat) : Option Nat := (roundF N f N).find? p
def optI (o : Option Nat) : Int := match o with | some k => (k : Int) | none => -1
def memB (l : List Int) (k : Nat) : Bool := decide ((k : Int) ∈ l)
def ownI (N : Nat) (e : Nat) (l : List Int) (b : Nat) : Int := optI (ownO N (memB l) ((b + e) % N))
def ownerI (c : Cfg) (e : Int) (l : List Int) (b : Int) : Int := if mayC c e = true ∧ 0 ≤ b ∧ b < c.bu then ownI c.n.toNat e.toNat l b.toNat else -1
theorem roundF_mod (N f k : Nat) : roundF N (f % N) k = roundF N f k := by
  unfold roundF
  apply List.map_congr_left
  intro i _
  exact Nat.mod_add_mod f N i
theorem find_take {p : Nat → Bool} {l : List Nat} {k : Nat} (hk : k < l.length) (h : ∀ x ∈ l.take k, p x = false) (hp : p l[k] = true) : l.find? p = some l[k] := by
  have e : l.find? p = (l.take k ++ l[k] :: l.drop (k + 1)).find? p := by rw [← List.drop_eq_getElem_cons hk, List.take_append_drop]
  have : (l.take k).find? p = none := by rw [List.find?_eq_none]; intro x hx; rw [h x hx]; simp
  rw [e, List.find?_append, this, Option.none_or, List.find?_cons_of_pos hp]
theorem find_none {p : Nat → Bool} {l : List Nat} (h : ∀ x ∈ l, p x = false) : l.find? p = none := by
  rw [List.find?_eq_none]; intro x hx; rw [h x hx]; simp
theorem own_at {N f k : Nat} {p : Nat → Bool} (hk : k < N) (h : ∀ x ∈ roundF N f k, p x = false) (hp : p ((f + k) % N) = true) : ownO N p f = some ((f + k) % N) := by
  have e : (roundF N f N)[k]'(by rw [roundF_len]; exact hk) = (f + k) % N := by simp [roundF]
  have := find_take (p := p) (l := roundF N f N) (k := k) (by rw [roundF_len]; exact hk) (by rw [roundF_take _ _ _ _ (Nat.le_of_lt hk)]; exact h) (by rw [e]; exact hp)
  rw [e] at this
  exact this
theorem own_no {N f : Nat} {p : Nat → Bool} (h : ∀ x ∈ roundF N f N, p x = false) : ownO N p f = none := find_none h
theorem own_mod (N f : Nat) (p : Nat → Bool) : ownO N p (f % N) = ownO N p f := by unfold ownO; rw [roundF_mod]
/-- a leader's buckets -/
def firstU (N e : Nat) (node : Nat) (k : Nat) : List Nat := (List.range k).filter fun b => decide ((b + e) % N = node)
def otherU (N e : Nat) (l : List Int) (node : Nat) (k : Nat) : List Nat := (List.range k).filter fun b => decide ((b + e) % N ≠ node ∧ ownI N e l b = (node : Int))
def bucketsN (N B e : Nat) (l : List Int) (node : Nat) : List Nat := firstU N e node B ++ otherU N e l node B
def bucketsL (c : Cfg) (e : Int) (l : List Int) (node : Int) : List Nat := if mayC c e = true ∧ 0 ≤ node ∧ node < c.n ∧ node ∈ l then bucketsN c.n.toNat c.bu.toNat e.toNat l node.toNat else []
theorem own_first {N f : Nat} {p : Nat → Bool} (hN : 0 < N) (hp : p (f % N) = true) : ownO N p f = some (f % N) := by
  have := own_at (N := N) (f := f) (k := 0) (p := p) hN (by simp [roundF]) (by simpa using hp)
  simpa using this
theorem own_some {N f k : Nat} {p : Nat → Bool} (h : ownO N p f = some k) : p k = true ∧ (0 < N → k < N) := by
  refine ⟨List.find?_some h, fun hN => ?_⟩
  have := List.mem_of_find?_eq_some h
  simp only [roundF, List.mem_map] at this
  obtain ⟨i, _, rfl⟩ := this
  exact Nat.mod_lt _ hN
theorem own_has {N f k : Nat} {p : Nat → Bool} (hk : k < N) (hp : p k = true) : ∃ j, ownO N p f = some j := by
  cases h : ownO N p f with
  | some j => exact ⟨j, rfl⟩
  | none =>
    exfalso
    have h := List.find?_eq_none.1 h
    have hm : k ∈ roundF N f N := by
      simp only [roundF, List.mem_map, List.mem_range]
      refine ⟨(N - f % N + k) % N, Nat.mod_lt _ (by omega), ?_⟩
      rw [Nat.add_mod, Nat.mod_mod, ← Nat.add_mod]
      have := Nat.mod_lt f (show 0 < N by omega)
      rw [← Nat.mod_add_mod f N (N - f % N + k), show f % N + (N - f % N + k) = k + N from by omega, Nat.add_mod_right, Nat.mod_eq_of_lt hk]
    exact h k hm hp
/-- the penalties behind an epoch -/
def penalN (x : Int) (pen bad : List Int) (k : Nat) : List Int := (List.range k).map fun (i : Nat) => if (i : Int) ∈ bad then x else penI pen i
theorem penalN_snoc (x : Int) (pen bad : List Int) (k : Nat) : penalN x pen bad (k + 1) = penalN x pen bad k ++ [if (k : Int) ∈ bad then x else penI pen k] := by simp [penalN, List.range_succ]
theorem penalN_len (x : Int) (pen bad : List Int) (k : Nat) : (penalN x pen bad k).length = k := by simp [penalN]
def penalL (c : Cfg) (e : Int) (pen bad : List Int) : List Int := if mayC c e then penalN (e + 1 + c.pe) pen bad c.n.toNat else []
end Go.Proofs.YtnndlgdlligjbabDoor.Ld
