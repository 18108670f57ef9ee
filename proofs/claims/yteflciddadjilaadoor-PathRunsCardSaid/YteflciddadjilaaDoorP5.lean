/- What rank and chooser make. -/
import Derived.Test.YteflciddadjilaaDoorP4
namespace Go.Proofs.YteflciddadjilaaDoor
open Go.RowKit Go.Sort Sim

set_option maxHeartbeats 1000000 in
theorem rank1_any (j : Nat) (w : World) : Calls Tryd.prog 31 #[.int .i64 (j : Int)] w fun e w' => e = .returned (.int .i64 (j : Int)) ∧ w' = w := by
  go_enter Tryd.func31, Tryd.ntmps31
  go_wp2
  go_ret
  exact ⟨rfl, rfl⟩
set_option maxHeartbeats 1000000 in
theorem rank2_any (j : Nat) (hj : j < 60) (w : World) : Calls Tryd.prog 32 #[.int .i64 (j : Int)] w fun e w' => e = .returned (.int .i64 (-(j : Int))) ∧ w' = w := by
  go_enter Tryd.func32, Tryd.ntmps32
  go_wp2
  go_ret
  exact ⟨rfl, rfl⟩
set_option maxHeartbeats 1000000 in
theorem rank3_any (B n c : Nat) (a : Option Addr) (f : Nat → T3) (j : Nat) (hj : j < n) (w : World) (hB : w.cell? ⟨B, 0, none⟩ = some (.slice a n c)) (ha : TRow w a n c f) : Calls Tryd.prog 33 #[.int .i64 (j : Int), .pointer (some ⟨B, 0, none⟩)] w fun e w' => e = .returned (.int .i64 (f j).2.1) ∧ ∃ d, w' = w.drewN d := by
  obtain ⟨h1, h2, h3⟩ := ha
  obtain ⟨b, o, rfl, hbl, hc⟩ := h3 (by omega)
  have ⟨k0, k1, k2⟩ := hc j hj
  have e3 : (j : Int) < (n : Int) := by omega
  obtain ⟨x, hx⟩ : ∃ x, (f j).2.1 = x := ⟨_, rfl⟩
  rw [hx] at k1
  rw [hx]
  clear h3 hc k0 k2 hx
  go_enter Tryd.func33, Tryd.ntmps33
  go_wp2_with fail
  first | go_quiet (fail) | skip
  go_wp2
  go_ret
  exact ⟨rfl, ⟨0, rfl⟩⟩
set_option maxHeartbeats 1000000 in
theorem rank5_any (B n c : Nat) (a : Option Addr) (f : Nat → T3) (j : Nat) (hj : j < n) (w : World) (hB : w.cell? ⟨B, 0, none⟩ = some (.slice a n c)) (ha : TRow w a n c f) : Calls Tryd.prog 35 #[.int .i64 (j : Int), .pointer (some ⟨B, 0, none⟩)] w fun e w' => e = .returned (.int .i64 (f j).2.2) ∧ ∃ d, w' = w.drewN d := by
  obtain ⟨h1, h2, h3⟩ := ha
  obtain ⟨b, o, rfl, hbl, hc⟩ := h3 (by omega)
  have ⟨k0, k1, k2⟩ := hc j hj
  have e3 : (j : Int) < (n : Int) := by omega
  obtain ⟨x, hx⟩ : ∃ x, (f j).2.2 = x := ⟨_, rfl⟩
  rw [hx] at k2
  rw [hx]
  clear h3 hc k0 k1 hx
  go_enter Tryd.func35, Tryd.ntmps35
  go_wp2_with fail
  first | go_quiet (fail) | skip
  go_wp2
  go_ret
  exact ⟨rfl, ⟨0, rfl⟩⟩
set_option maxHeartbeats 1000000 in
theorem rank4_any (B n G : Nat) (L : Nat → Int) (j : Nat) (hj : j < n) (w : World) (hB : w.cell? ⟨B, 0, none⟩ = some (.slice (some ⟨G, 0, none⟩) n n)) (hO : OwnI w G n L) : Calls Tryd.prog 34 #[.int .i64 (j : Int), .pointer (some ⟨B, 0, none⟩)] w fun e w' => e = .returned (.int .i64 (L j)) ∧ ∃ d, w' = w.drewN d := by
  have k0 := hO.cell hj
  have e3 : (j : Int) < (n : Int) := by omega
  obtain ⟨x, hx⟩ : ∃ x, L j = x := ⟨_, rfl⟩
  rw [hx] at k0
  rw [hx]
  clear hO hx
  go_enter Tryd.func34, Tryd.ntmps34
  go_wp2_with fail
  first | go_quiet (fail) | skip
  go_wp2
  go_ret
  exact ⟨rfl, ⟨0, rfl⟩⟩

/-- The number by which a rule compares. -/
def keyI (r : Nat) (f : Nat → T3) (L : Nat → Int) (j : Nat) : Int :=
  if r = 1 then (j : Int) else if r = 2 then -(j : Int) else if r = 3 then (f j).2.1 else if r = 6 then L j else (f j).2.2

def pv (B : Nat) : Value := .pointer (some ⟨B, 0, none⟩)

/-- What a rank closure is, by its rule. -/
def RankBox (w : World) (r : Nat) (a : Option Addr) (n c G fk : Nat) (caps : Array Value) : Prop :=
  (r = 1 ∧ fk = 31 ∧ caps = #[]) ∨ (r = 2 ∧ fk = 32 ∧ caps = #[]) ∨
  (r = 3 ∧ fk = 33 ∧ ∃ B, caps = #[pv B] ∧ w.cell? ⟨B, 0, none⟩ = some (.slice a n c)) ∨
  ((r = 4 ∨ r = 5) ∧ fk = 35 ∧ ∃ B, caps = #[pv B] ∧ w.cell? ⟨B, 0, none⟩ = some (.slice a n c)) ∨
  (r = 6 ∧ fk = 34 ∧ ∃ B, caps = #[pv B] ∧ w.cell? ⟨B, 0, none⟩ = some (.slice (some ⟨G, 0, none⟩) n n))

theorem RankBox.keep {w w' : World} {r : Nat} {a : Option Addr} {n c G fk : Nat} {caps : Array Value} (h : RankBox w r a n c G fk caps) (hk : ∀ B x n c, w.cell? ⟨B, 0, none⟩ = some (.slice x n c) → w'.cell? ⟨B, 0, none⟩ = some (.slice x n c)) : RankBox w' r a n c G fk caps := by
  rcases h with h | h | ⟨h1, h2, B, h3, h4⟩ | ⟨h1, h2, B, h3, h4⟩ | ⟨h1, h2, B, h3, h4⟩
  · exact Or.inl h
  · exact Or.inr (Or.inl h)
  · exact Or.inr (Or.inr (Or.inl ⟨h1, h2, B, h3, hk _ _ _ _ h4⟩))
  · exact Or.inr (Or.inr (Or.inr (Or.inl ⟨h1, h2, B, h3, hk _ _ _ _ h4⟩)))
  · exact Or.inr (Or.inr (Or.inr (Or.inr ⟨h1, h2, B, h3, hk _ _ _ _ h4⟩)))

theorem eg1 (args : Array Value) (w : World) : (callFunc 31 args).run Tryd.prog w = .ok (.enter 31 args) w := by
  go_simp
theorem eg2 (args : Array Value) (w : World) : (callFunc 32 args).run Tryd.prog w = .ok (.enter 32 args) w := by
  go_simp
theorem eg3 (args : Array Value) (w : World) : (callFunc 33 args).run Tryd.prog w = .ok (.enter 33 args) w := by
  go_simp
theorem eg4 (args : Array Value) (w : World) : (callFunc 34 args).run Tryd.prog w = .ok (.enter 34 args) w := by
  go_simp
theorem eg5 (args : Array Value) (w : World) : (callFunc 35 args).run Tryd.prog w = .ok (.enter 35 args) w := by
  go_simp

/-- Who is next, by any rule. -/
theorem next_any {w : World} {r : Nat} {a : Option Addr} {n c G fk B1 B2 came : Nat} {caps : Array Value} {f : Nat → T3} {L : Nat → Int} (h : RankBox w r a n c G fk caps) (hc : came ≤ n) (hn : n ≤ 60) (ha : TRow w a n c f)
    (h1 : w.cell? ⟨B1, 0, none⟩ = some (.slice (some ⟨G, 0, none⟩) n n)) (hO : OwnI w G n L) (h2 : w.cell? ⟨B2, 0, none⟩ = some (.func (.func fk) #[] caps)) :
    Calls Tryd.prog 30 #[.int .i64 (came : Int), pv B1, pv B2] w fun e w' => e = .returned (.tuple #[bv (pk (keyI r f L) L came), ov (pk (keyI r f L) L came)]) ∧ ∃ d, w' = w.drewN d := by
  show Calls Tryd.prog 30 #[.int .i64 (came : Int), .pointer (some ⟨B1, 0, none⟩), .pointer (some ⟨B2, 0, none⟩)] w _
  rcases h with ⟨rfl, rfl, rfl⟩ | ⟨rfl, rfl, rfl⟩ | ⟨rfl, rfl, B, rfl, h4⟩ | ⟨hr, rfl, B, rfl, h4⟩ | ⟨rfl, rfl, B, rfl, h4⟩
  · refine next_bare B1 B2 G n came _ _ L w hc hn h1 hO h2 (fun j hj d => ?_) eg1
    exact (rank1_any j (w.drewN d)).mono fun e w' ⟨h, h'⟩ => ⟨h, 0, by rw [h']; rfl⟩
  · refine next_bare B1 B2 G n came _ _ L w hc hn h1 hO h2 (fun j hj d => ?_) eg2
    exact (rank2_any j (by omega) (w.drewN d)).mono fun e w' ⟨h, h'⟩ => ⟨h, 0, by rw [h']; rfl⟩
  · refine next_cap _ B1 B2 G n came _ _ L w hc hn h1 hO h2 (fun j hj d => ?_) eg3
    exact rank3_any B n c a f j hj (w.drewN d) h4 (ha.below (below_drewN _ _))
  · have e : keyI r f L = fun j => (f j).2.2 := by
      funext j; unfold keyI
      rcases hr with rfl | rfl <;> simp
    rw [e]
    refine next_cap _ B1 B2 G n came _ _ L w hc hn h1 hO h2 (fun j hj d => ?_) eg5
    exact rank5_any B n c a f j hj (w.drewN d) h4 (ha.below (below_drewN _ _))
  · refine next_cap _ B1 B2 G n came _ _ L w hc hn h1 hO h2 (fun j hj d => ?_) eg4
    exact rank4_any B n G L j hj (w.drewN d) h4 (hO.keep (below_drewN _ _))

def rankW (w : World) (a : Option Addr) (n c G : Nat) : World := (w.alloc (.cells #[.slice a n c] 22)).alloc (.cells #[.slice (some ⟨G, 0, none⟩) n n] 27)
theorem rankW_below (w : World) (a : Option Addr) (n c G : Nat) : Below w.heap.size w (rankW w a n c G) := below_step (alloc_below _ _) (alloc_below _ _)
theorem rankW_one (w : World) (a : Option Addr) (n c G : Nat) : (rankW w a n c G).cell? ⟨w.heap.size, 0, none⟩ = some (.slice a n c) := by
  unfold rankW
  rw [(alloc_below (w.alloc (.cells #[.slice a n c] 22)) _).cell (p := ⟨w.heap.size, 0, none⟩) (by rw [alloc_size]; exact Nat.lt_succ_self _)]
  simp only [World.cell?, heap_alloc_new]
  rfl
theorem rankW_two (w : World) (a : Option Addr) (n c G : Nat) : (rankW w a n c G).cell? ⟨w.heap.size + 1, 0, none⟩ = some (.slice (some ⟨G, 0, none⟩) n n) := by
  unfold rankW
  have := heap_alloc_new (w.alloc (.cells #[.slice a n c] 22)) (.cells #[.slice (some ⟨G, 0, none⟩) n n] 27)
  rw [alloc_size] at this
  simp only [World.cell?, this]
  rfl

set_option maxHeartbeats 1000000 in
theorem rank_any (r : Nat) (hr1 : 1 ≤ r) (hr6 : r ≤ 6) (a : Option Addr) (n c G : Nat) (w : World) :
    Calls Tryd.prog 23 #[.slice a n c, .slice (some ⟨G, 0, none⟩) n n, .int .i64 (r : Int)] w fun e w' => ∃ fk caps, e = .returned (.func (.func fk) #[] caps) ∧ RankBox w' r a n c G fk caps ∧ Below w.heap.size w w' := by
  have b0 := hide (rankW_below w a n c G)
  have b1 := hide (rankW_one w a n c G)
  have b2 := hide (rankW_two w a n c G)
  unfold rankW at b0 b1 b2
  obtain rfl | rfl | rfl | rfl | rfl | rfl : r = 1 ∨ r = 2 ∨ r = 3 ∨ r = 4 ∨ r = 5 ∨ r = 6 := by omega
  · go_enter Tryd.func23, Tryd.ntmps23
    go_wp2
    go_ret
    exact ⟨_, _, rfl, Or.inl ⟨rfl, rfl, rfl⟩, unhide b0⟩
  · go_enter Tryd.func23, Tryd.ntmps23
    go_wp2
    go_ret
    exact ⟨_, _, rfl, Or.inr (Or.inl ⟨rfl, rfl, rfl⟩), unhide b0⟩
  · go_enter Tryd.func23, Tryd.ntmps23
    go_wp2
    go_ret
    exact ⟨_, _, rfl, Or.inr (Or.inr (Or.inl ⟨rfl, rfl, _, rfl, unhide b1⟩)), unhide b0⟩
  · go_enter Tryd.func23, Tryd.ntmps23
    go_wp2
    go_ret
    exact ⟨_, _, rfl, Or.inr (Or.inr (Or.inr (Or.inl ⟨Or.inl rfl, rfl, _, rfl, unhide b1⟩))), unhide b0⟩
  · go_enter Tryd.func23, Tryd.ntmps23
    go_wp2
    go_ret
    exact ⟨_, _, rfl, Or.inr (Or.inr (Or.inr (Or.inl ⟨Or.inr rfl, rfl, _, rfl, unhide b1⟩))), unhide b0⟩
  · go_enter Tryd.func23, Tryd.ntmps23
    go_wp2
    go_ret
    exact ⟨_, _, rfl, Or.inr (Or.inr (Or.inr (Or.inr ⟨rfl, rfl, _, rfl, unhide b2⟩))), unhide b0⟩

set_option maxHeartbeats 1000000 in
theorem chooser_any (n G fk : Nat) (caps : Array Value) (w : World) :
    Calls Tryd.prog 22 #[.slice (some ⟨G, 0, none⟩) n n, .func (.func fk) #[] caps] w fun e w' => ∃ B1 B2, e = .returned (.func (.func 30) #[] #[pv B1, pv B2]) ∧
      w'.cell? ⟨B1, 0, none⟩ = some (.slice (some ⟨G, 0, none⟩) n n) ∧ w'.cell? ⟨B2, 0, none⟩ = some (.func (.func fk) #[] caps) ∧ w.heap.size ≤ B1 ∧ w.heap.size ≤ B2 ∧ Below w.heap.size w w' := by
  have b0 : Hid (Below w.heap.size w ((w.alloc (.cells #[.slice (some ⟨G, 0, none⟩) n n] 27)).alloc (.cells #[.func (.func fk) #[] caps] 59))) := below_step (alloc_below _ _) (alloc_below _ _)
  have b1 : Hid (((w.alloc (.cells #[.slice (some ⟨G, 0, none⟩) n n] 27)).alloc (.cells #[.func (.func fk) #[] caps] 59)).cell? ⟨w.heap.size, 0, none⟩ = some (.slice (some ⟨G, 0, none⟩) n n)) := by
    show World.cell? _ _ = _
    rw [(alloc_below (w.alloc (.cells #[.slice (some ⟨G, 0, none⟩) n n] 27)) _).cell (p := ⟨w.heap.size, 0, none⟩) (by rw [alloc_size]; exact Nat.lt_succ_self _)]
    simp only [World.cell?, heap_alloc_new]
    rfl
  have b2 : Hid (((w.alloc (.cells #[.slice (some ⟨G, 0, none⟩) n n] 27)).alloc (.cells #[.func (.func fk) #[] caps] 59)).cell? ⟨w.heap.size + 1, 0, none⟩ = some (.func (.func fk) #[] caps)) := by
    show World.cell? _ _ = _
    have := heap_alloc_new (w.alloc (.cells #[.slice (some ⟨G, 0, none⟩) n n] 27)) (.cells #[.func (.func fk) #[] caps] 59)
    rw [alloc_size] at this
    simp only [World.cell?, this]
    rfl
  go_enter Tryd.func22, Tryd.ntmps22
  go_wp2
  go_ret
  exact ⟨_, _, rfl, unhide b1, unhide b2, Nat.le_refl _, Nat.le_succ _, unhide b0⟩
end Go.Proofs.YteflciddadjilaaDoor
