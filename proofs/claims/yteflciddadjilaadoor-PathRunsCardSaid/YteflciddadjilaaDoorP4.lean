/- Closures: the number by which a rule compares, and who is next. -/
import Derived.Test.YteflciddadjilaaDoorP3
namespace Go.Proofs.YteflciddadjilaaDoor
open Go.RowKit Go.Sort Sim

/-- The best of the first k: of the lowest rank, of like ones the first. -/
def pk (K L : Nat → Int) : Nat → Option Nat
  | 0 => none
  | k + 1 => match pk K L k with
    | none => if 0 < L k then some k else none
    | some b => if 0 < L k ∧ K k < K b then some k else some b
theorem pk_lt {K L : Nat → Int} : ∀ {k j : Nat}, pk K L k = some j → j < k
  | k + 1, j, h => by
    unfold pk at h
    split at h
    · split at h
      · obtain rfl := Option.some.inj h; omega
      · cases h
    · next b hb =>
      have := pk_lt hb
      split at h <;> (obtain rfl := Option.some.inj h; omega)
theorem pk_new {K L : Nat → Int} {k : Nat} (h : pk K L k = none) (hl : 0 < L k) : pk K L (k + 1) = some k := by
  show (match pk K L k with | none => _ | some b => _) = _
  rw [h]; exact if_pos hl
theorem pk_not {K L : Nat → Int} {k : Nat} (hl : ¬ 0 < L k) : pk K L (k + 1) = pk K L k := by
  show (match pk K L k with | none => _ | some b => _) = _
  cases h : pk K L k with
  | none => exact if_neg hl
  | some b => exact if_neg fun c => hl c.1
theorem pk_better {K L : Nat → Int} {k b : Nat} (h : pk K L k = some b) (hl : 0 < L k) (hk : K k < K b) : pk K L (k + 1) = some k := by
  show (match pk K L k with | none => _ | some b => _) = _
  rw [h]; exact if_pos ⟨hl, hk⟩
theorem pk_worse {K L : Nat → Int} {k b : Nat} (h : pk K L k = some b) (hk : ¬ K k < K b) : pk K L (k + 1) = some b := by
  show (match pk K L k with | none => _ | some b => _) = _
  rw [h]; exact if_neg fun c => hk c.2

def bv (o : Option Nat) : Value := .int .i64 ((o.getD 0 : Nat) : Int)
def ov (o : Option Nat) : Value := .bool o.isSome
theorem drew2 (w : World) (a b : Nat) : ∃ k, (w.drewN a).drewN b = w.drewN k := ⟨a + b, by simp⟩

/-- What a rank is: whatever was drawn, it answers the number and draws at most. -/
def RankIs (w : World) (fk : Nat) (caps : Array Value) (K : Nat → Int) (n : Nat) : Prop :=
  ∀ j : Nat, j < n → ∀ d, Calls Tryd.prog fk (#[.int .i64 (j : Int)] ++ caps) (w.drewN d) fun e w' => e = .returned (.int .i64 (K j)) ∧ ∃ d', w' = (w.drewN d).drewN d'

set_option maxHeartbeats 4000000 in
set_option maxRecDepth 100000 in
theorem next_bare (B1 B2 G n came fk : Nat) (K L : Nat → Int) (w : World) (hc : came ≤ n) (hn : n ≤ 60) (h1 : w.cell? ⟨B1, 0, none⟩ = some (.slice (some ⟨G, 0, none⟩) n n)) (hO : OwnI w G n L) (h2 : w.cell? ⟨B2, 0, none⟩ = some (.func (.func fk) #[] #[])) (hr : RankIs w fk #[] K n) (heg : ∀ args w, (callFunc fk args).run Tryd.prog w = .ok (.enter fk args) w) :
    Calls Tryd.prog 30 #[.int .i64 (came : Int), .pointer (some ⟨B1, 0, none⟩), .pointer (some ⟨B2, 0, none⟩)] w fun e w' => e = .returned (.tuple #[bv (pk K L came), ov (pk K L came)]) ∧ ∃ d, w' = w.drewN d := by
  have HR : Hid (∀ j : Nat, j < n → ∀ d, Calls Tryd.prog fk #[.int .i64 (j : Int)] (w.drewN d) fun e w' => e = .returned (.int .i64 (K j)) ∧ ∃ d', w' = (w.drewN d).drewN d') := fun j hj d => by
    have := hr j hj d
    simpa using this
  have HO := hide hO
  clear hr hO
  go_enter Tryd.func30, Tryd.ntmps30
  go_wp2_with fail
  go_loopw [6, 7, 10] (fun vb vo vi wr => ∃ m k : Nat, vi = .int .i64 (m : Int) ∧ m ≤ came ∧ vb = bv (pk K L m) ∧ vo = ov (pk K L m) ∧ wr = w.drewN k) (fun _ _ vi _ => came - (intOf vi).toNat)
  case atStart => exact ⟨0, 0, rfl, Nat.zero_le _, rfl, rfl, rfl⟩
  case round =>
    obtain ⟨m, k, rfl, hm, rfl, rfl, hwr⟩ := hrel
    have hbw : Below w.heap.size w wr := by rw [hwr]; exact below_drewN _ _
    have h1' : wr.cell? ⟨B1, 0, none⟩ = some (.slice (some ⟨G, 0, none⟩) n n) := by rw [hwr]; exact h1
    have h2' : wr.cell? ⟨B2, 0, none⟩ = some (.func (.func fk) #[] #[]) := by rw [hwr]; exact h2
    have HRW : Hid (∀ j : Nat, j < n → ∀ d, Calls Tryd.prog fk #[.int .i64 (j : Int)] (wr.drewN d) fun e w' => e = .returned (.int .i64 (K j)) ∧ ∃ d', w' = (wr.drewN d).drewN d') := fun j hj d => by
      rw [hwr, World.drewN_drewN]
      exact unhide HR j hj (k + d)
    have HOW := hide ((unhide HO).keep hbw)
    have HW := hide hwr
    clear hwr hbw
    by_cases hlt : m < came
    · have e2 : (0 : Int) ≤ (m : Int) := by omega
      have e3 : (m : Int) < (came : Int) := by omega
      have e4 : (m : Int) < (n : Int) := by omega
      have g0 := (unhide HOW).cell (show m < n by omega)
      obtain ⟨x, hx⟩ : ∃ x, L m = x := ⟨_, rfl⟩
      rw [hx] at g0
      by_cases hl : 0 < x
      · cases hp : pk K L m with
        | none =>
          have FIN := hide (pk_new hp (by rw [hx]; exact hl))
          clear hx hp
          simp only [bv, ov, Option.getD_none, Option.isSome_none]
          go_wp2_with fail
          go_quiet (fail)
          go_wp2
          refine ⟨⟨m + 1, k + nq, by go_num, by omega, by rw [unhide FIN]; rfl, by rw [unhide FIN]; rfl, by rw [unhide HW]; simp⟩, by simp [intOf]; omega⟩
        | some b =>
          have hb := pk_lt hp
          have C1 := hide (unhide HRW m (by omega))
          have C2 := hide (unhide HRW b (by omega))
          simp only [bv, ov, Option.getD_some, Option.isSome_some]
          by_cases hk : K m < K b
          · have FIN := hide (pk_better hp (by rw [hx]; exact hl) hk)
            obtain ⟨y, hy⟩ : ∃ y, K m = y := ⟨_, rfl⟩
            obtain ⟨z, hz⟩ : ∃ y, K b = y := ⟨_, rfl⟩
            rw [hy] at C1 hk
            rw [hz] at C2 hk
            clear hx hp hy hz
            go_wp2_with fail
            go_quiet ((first | exact Calls.quiet_of (unhide C1 _) | exact Calls.quiet_of (unhide C2 _)))
            go_wp2
            refine ⟨⟨m + 1, k + nq, by go_num, by omega, by rw [unhide FIN]; rfl, by rw [unhide FIN]; rfl, by rw [unhide HW]; simp⟩, by simp [intOf]; omega⟩
          · have FIN := hide (pk_worse (L := L) hp hk)
            obtain ⟨y, hy⟩ : ∃ y, K m = y := ⟨_, rfl⟩
            obtain ⟨z, hz⟩ : ∃ y, K b = y := ⟨_, rfl⟩
            rw [hy] at C1 hk
            rw [hz] at C2 hk
            clear hx hp hy hz
            go_wp2_with fail
            go_quiet ((first | exact Calls.quiet_of (unhide C1 _) | exact Calls.quiet_of (unhide C2 _)))
            go_wp2
            refine ⟨⟨m + 1, k + nq, by go_num, by omega, by rw [unhide FIN]; rfl, by rw [unhide FIN]; rfl, by rw [unhide HW]; simp⟩, by simp [intOf]; omega⟩
      · have FIN := hide (pk_not (K := K) (L := L) (k := m) (by rw [hx]; exact hl))
        have hd : decide (0 < x) = false := decide_eq_false hl
        clear hx
        go_wp2_with fail
        go_quiet (fail)
        go_wp2
        refine ⟨⟨m + 1, k + nq, by go_num, by omega, by rw [unhide FIN], by rw [unhide FIN], by rw [unhide HW]; simp⟩, by simp [intOf]; omega⟩
    · obtain rfl : m = came := by omega
      have e3 : ¬ (m : Int) < (m : Int) := by omega
      go_wp2
      go_ret2
      exact ⟨rfl, k, unhide HW⟩

set_option maxHeartbeats 4000000 in
set_option maxRecDepth 100000 in
theorem next_cap (pa : Addr) (B1 B2 G n came fk : Nat) (K L : Nat → Int) (w : World) (hc : came ≤ n) (hn : n ≤ 60) (h1 : w.cell? ⟨B1, 0, none⟩ = some (.slice (some ⟨G, 0, none⟩) n n)) (hO : OwnI w G n L) (h2 : w.cell? ⟨B2, 0, none⟩ = some (.func (.func fk) #[] #[.pointer (some pa)])) (hr : RankIs w fk #[.pointer (some pa)] K n) (heg : ∀ args w, (callFunc fk args).run Tryd.prog w = .ok (.enter fk args) w) :
    Calls Tryd.prog 30 #[.int .i64 (came : Int), .pointer (some ⟨B1, 0, none⟩), .pointer (some ⟨B2, 0, none⟩)] w fun e w' => e = .returned (.tuple #[bv (pk K L came), ov (pk K L came)]) ∧ ∃ d, w' = w.drewN d := by
  have HR : Hid (∀ j : Nat, j < n → ∀ d, Calls Tryd.prog fk #[.int .i64 (j : Int), .pointer (some pa)] (w.drewN d) fun e w' => e = .returned (.int .i64 (K j)) ∧ ∃ d', w' = (w.drewN d).drewN d') := fun j hj d => by
    have := hr j hj d
    simpa using this
  have HO := hide hO
  clear hr hO
  go_enter Tryd.func30, Tryd.ntmps30
  go_wp2_with fail
  go_loopw [6, 7, 10] (fun vb vo vi wr => ∃ m k : Nat, vi = .int .i64 (m : Int) ∧ m ≤ came ∧ vb = bv (pk K L m) ∧ vo = ov (pk K L m) ∧ wr = w.drewN k) (fun _ _ vi _ => came - (intOf vi).toNat)
  case atStart => exact ⟨0, 0, rfl, Nat.zero_le _, rfl, rfl, rfl⟩
  case round =>
    obtain ⟨m, k, rfl, hm, rfl, rfl, hwr⟩ := hrel
    have hbw : Below w.heap.size w wr := by rw [hwr]; exact below_drewN _ _
    have h1' : wr.cell? ⟨B1, 0, none⟩ = some (.slice (some ⟨G, 0, none⟩) n n) := by rw [hwr]; exact h1
    have h2' : wr.cell? ⟨B2, 0, none⟩ = some (.func (.func fk) #[] #[.pointer (some pa)]) := by rw [hwr]; exact h2
    have HRW : Hid (∀ j : Nat, j < n → ∀ d, Calls Tryd.prog fk #[.int .i64 (j : Int), .pointer (some pa)] (wr.drewN d) fun e w' => e = .returned (.int .i64 (K j)) ∧ ∃ d', w' = (wr.drewN d).drewN d') := fun j hj d => by
      rw [hwr, World.drewN_drewN]
      exact unhide HR j hj (k + d)
    have HOW := hide ((unhide HO).keep hbw)
    have HW := hide hwr
    clear hwr hbw
    by_cases hlt : m < came
    · have e2 : (0 : Int) ≤ (m : Int) := by omega
      have e3 : (m : Int) < (came : Int) := by omega
      have e4 : (m : Int) < (n : Int) := by omega
      have g0 := (unhide HOW).cell (show m < n by omega)
      obtain ⟨x, hx⟩ : ∃ x, L m = x := ⟨_, rfl⟩
      rw [hx] at g0
      by_cases hl : 0 < x
      · cases hp : pk K L m with
        | none =>
          have FIN := hide (pk_new hp (by rw [hx]; exact hl))
          clear hx hp
          simp only [bv, ov, Option.getD_none, Option.isSome_none]
          go_wp2_with fail
          go_quiet (fail)
          go_wp2
          refine ⟨⟨m + 1, k + nq, by go_num, by omega, by rw [unhide FIN]; rfl, by rw [unhide FIN]; rfl, by rw [unhide HW]; simp⟩, by simp [intOf]; omega⟩
        | some b =>
          have hb := pk_lt hp
          have C1 := hide (unhide HRW m (by omega))
          have C2 := hide (unhide HRW b (by omega))
          simp only [bv, ov, Option.getD_some, Option.isSome_some]
          by_cases hk : K m < K b
          · have FIN := hide (pk_better hp (by rw [hx]; exact hl) hk)
            obtain ⟨y, hy⟩ : ∃ y, K m = y := ⟨_, rfl⟩
            obtain ⟨z, hz⟩ : ∃ y, K b = y := ⟨_, rfl⟩
            rw [hy] at C1 hk
            rw [hz] at C2 hk
            clear hx hp hy hz
            go_wp2_with fail
            go_quiet ((first | exact Calls.quiet_of (unhide C1 _) | exact Calls.quiet_of (unhide C2 _)))
            go_wp2
            refine ⟨⟨m + 1, k + nq, by go_num, by omega, by rw [unhide FIN]; rfl, by rw [unhide FIN]; rfl, by rw [unhide HW]; simp⟩, by simp [intOf]; omega⟩
          · have FIN := hide (pk_worse (L := L) hp hk)
            obtain ⟨y, hy⟩ : ∃ y, K m = y := ⟨_, rfl⟩
            obtain ⟨z, hz⟩ : ∃ y, K b = y := ⟨_, rfl⟩
            rw [hy] at C1 hk
            rw [hz] at C2 hk
            clear hx hp hy hz
            go_wp2_with fail
            go_quiet ((first | exact Calls.quiet_of (unhide C1 _) | exact Calls.quiet_of (unhide C2 _)))
            go_wp2
            refine ⟨⟨m + 1, k + nq, by go_num, by omega, by rw [unhide FIN]; rfl, by rw [unhide FIN]; rfl, by rw [unhide HW]; simp⟩, by simp [intOf]; omega⟩
      · have FIN := hide (pk_not (K := K) (L := L) (k := m) (by rw [hx]; exact hl))
        have hd : decide (0 < x) = false := decide_eq_false hl
        clear hx
        go_wp2_with fail
        go_quiet (fail)
        go_wp2
        refine ⟨⟨m + 1, k + nq, by go_num, by omega, by rw [unhide FIN], by rw [unhide FIN], by rw [unhide HW]; simp⟩, by simp [intOf]; omega⟩
    · obtain rfl : m = came := by omega
      have e3 : ¬ (m : Int) < (m : Int) := by omega
      go_wp2
      go_ret2
      exact ⟨rfl, k, unhide HW⟩
end Go.Proofs.YteflciddadjilaaDoor
