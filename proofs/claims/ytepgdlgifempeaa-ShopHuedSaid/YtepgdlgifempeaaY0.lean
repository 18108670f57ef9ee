/- Comparing; rows that come in; rows that are shuffled; how a row is sorted. -/
import Derived.Test.YtepgdlgifempeaaJ5
import Derived.Test.YtepgdlgifempeaaL6
namespace Go.Proofs.Ytepgdlgifempeaa
open Go.RowKit Go.Sort Go.ChangeShapes Go.WideShapes Go.ChangeAt Go.Joins Stb

def cmpI (x y : Int) : Int := if x < y then -1 else if y < x then 1 else 0
theorem cmpI_lt {x y : Int} : cmpI x y < 0 ↔ x < y := by unfold cmpI; split <;> (try split) <;> omega
set_option maxHeartbeats 1000000 in
theorem nan_any (x : Int) (w : World) : Calls Try.prog 36 #[.int .i64 x] w fun e w' => e = .returned (.bool false) ∧ w' = w := by
  have e0 : (x == x) = true := by simp
  go_enter Try.func36, Try.ntmps36
  go_wp2
  go_ret
  exact ⟨rfl, rfl⟩
set_option maxHeartbeats 1000000 in
theorem compare_any (x y : Int) (w : World) : Calls Try.prog 20 #[.int .i64 x, .int .i64 y] w fun e w' => e = .returned (.int .i64 (cmpI x y)) ∧ w' = w := by
  have H1 := hide (nan_any x w)
  have H2 := hide (nan_any y w)
  by_cases h1 : x < y
  · rw [show cmpI x y = -1 by unfold cmpI; rw [if_pos h1]]
    go_enter Try.func20, Try.ntmps20
    go_wp2_with fail
    refine (unhide H1).mono ?_
    rintro e w' ⟨rfl, rfl⟩
    go_wp2_with fail
    refine (unhide H2).mono ?_
    rintro e w' ⟨rfl, rfl⟩
    go_wp2
    go_ret
    exact ⟨rfl, rfl⟩
  · by_cases h2 : y < x
    · rw [show cmpI x y = 1 by unfold cmpI; rw [if_neg h1, if_pos h2]]
      go_enter Try.func20, Try.ntmps20
      go_wp2_with fail
      refine (unhide H1).mono ?_
      rintro e w' ⟨rfl, rfl⟩
      go_wp2_with fail
      refine (unhide H2).mono ?_
      rintro e w' ⟨rfl, rfl⟩
      go_wp2
      go_ret
      exact ⟨rfl, rfl⟩
    · rw [show cmpI x y = 0 by unfold cmpI; rw [if_neg h1, if_neg h2]]
      go_enter Try.func20, Try.ntmps20
      go_wp2_with fail
      refine (unhide H1).mono ?_
      rintro e w' ⟨rfl, rfl⟩
      go_wp2_with fail
      refine (unhide H2).mono ?_
      rintro e w' ⟨rfl, rfl⟩
      go_wp2
      go_ret
      exact ⟨rfl, rfl⟩
theorem id_stl (lt : Nat → Nat → Bool) (n : Nat) : Stl lt id 0 n := fun _ _ _ h2 _ h4 => Or.inr ⟨h4, h2⟩
set_option maxRecDepth 100000 in
/-- A row of ints that came in. -/
theorem irow_of_arg {H : Type} {enc : TypeId × Value → H} {W : World} {base : Nat} {v : Value} {d : DataW H} {p : List MemPlace} (hval : Value.okWide Try.prog W .any base 23 v) (h : DataW.Trod enc Try.prog W 0 (fun _ => true) true 23 v d p) : ∃ a n c f, v = .slice a n c ∧ IRow W a n c f := by
  obtain ⟨a0, len, cap, rfl⟩ := okWide_slice Try.underlying23 hval
  obtain ⟨fuel, hf⟩ := h
  rcases open_ints Try.underlying23 Try.underlying3 Try.cellsI hf with ⟨hcs, hx⟩ | ⟨a, len', cap', zs, hcs, hb, hl, hm, hz, hx, hcell, hwz⟩
  · have e : Value.slice a0 len cap = .slice none 0 0 := by simpa [Value.cells] using hcs
    exact ⟨a0, len, cap, fun _ => 0, rfl, by injection e with e1 e2 e3; omega, by injection e with e1 e2 e3; omega, fun h => by injection e with e1 e2 e3; omega⟩
  · have e : Value.slice a0 len cap = .slice (some a) len' cap' := by simpa [Value.cells] using hcs
    injection e with e1 e2 e3
    subst e1 e2 e3
    simp only [if_true] at hz
    refine ⟨_, len, cap, fun j => zs.getD j 0, rfl, hl, by unfold maxLen at hm; exact hm, fun hp => ?_⟩
    obtain ⟨b, off, rfl, hc⟩ := ints_at hcell (by omega)
    refine ⟨b, off, rfl, ?_, fun j hj => hc j (by omega)⟩
    exact World.block_lt_of_cell? W ⟨b, off + 0, none⟩ (hc 0 (by omega))
def nI (g : Nat → Nat) : Nat → Int := fun i => ((g i : Nat) : Int)
theorem goodR_re {n : Nat} {g : Nat → Nat} (h : Re 0 n id g) : GoodR n (nI g) := by
  refine ⟨fun i hi => ?_, fun i j hi hj e => ?_⟩
  · have := h.lt (Nat.le_refl _) (fun i hi => hi) i hi
    unfold nI
    omega
  · unfold nI at e
    exact h.inj (Nat.le_refl _) (fun i j _ _ e => e) i j hi hj (by omega)
theorem rl_nI (g : Nat → Nat) (n : Nat) : rl (nI g) n = (List.range n).map g := by
  unfold rl nI
  exact List.map_congr_left fun j _ => by simp
theorem pair_map {n : Nat} {g : Nat → Nat} {R : Nat → Nat → Prop} (h : ∀ p q, p < q → q < n → R (g p) (g q)) : ((List.range n).map g).Pairwise R := by
  rw [List.pairwise_map]
  exact (List.pairwise_lt_range (n := n)).imp_of_mem fun {a b} _ hb hab => h a b hab (List.mem_range.1 hb)
theorem lo_not {n : Nat} {lt : Nat → Nat → Bool} (W : Wo n lt) {x y : Nat} (hx : x < n) (hy : y < n) (h : Lo lt x y) : lt y x = false := by
  rcases h with h | h
  · exact W.asym x y hx hy h
  · exact h.1
set_option maxHeartbeats 1000000 in
theorem pick_any (a : Int) (n : Nat) (hn : 0 < n) (hn1 : n ≤ 1000) (w : World) :
    Calls Try.prog 22 #[.int .i64 a, .int .i64 (n : Int)] w fun e w' => ∃ k : Nat, e = .returned (.int .i64 (k : Int)) ∧ k < n ∧ w' = w := by
  have e1 : IntKind.u64.wrap (n : Int) = (n : Int) := by rw [IntKind.wrap_u64]; omega
  obtain ⟨x, hx⟩ : ∃ x, IntKind.u64.wrap a = x := ⟨_, rfl⟩
  have hx0 : 0 ≤ x := by rw [← hx, IntKind.wrap_u64]; omega
  have hx1 : x < 18446744073709551616 := by rw [← hx, IntKind.wrap_u64]; omega
  have hz : ((n : Int) == 0) = false := by rw [beq_eq_false_iff_ne]; omega
  have hm0 : 0 ≤ x % (n : Int) := Int.emod_nonneg _ (by omega)
  have hm1 : x % (n : Int) < (n : Int) := Int.emod_lt_of_pos _ (by omega)
  obtain ⟨k, hk⟩ : ∃ k : Nat, x % (n : Int) = (k : Int) := ⟨(x % (n : Int)).toNat, by omega⟩
  have hkn : k < n := by omega
  clear hm0 hm1
  go_enter Try.func22, Try.ntmps22
  go_wp2
  go_ret
  exact ⟨k, rfl, hkn, rfl⟩
/-- A row of the call's own, by g. -/
structure Sh (w0 : World) (g n : Nat) (f : Nat → Nat) (w : World) : Prop where
  own : OwnI w g n (fun i => ((f i : Nat) : Int))
  bl : Below w0.heap.size w0 w
theorem Sh.keep {w0 : World} {g n : Nat} {f : Nat → Nat} {w w' : World} (h : Sh w0 g n f w) (hb : Below w.heap.size w w') : Sh w0 g n f w' := ⟨h.own.keep hb, below_step h.bl hb⟩
theorem swp_ints' (f : Nat → Nat) (a b : Nat) : updI (updI (fun i => ((f i : Nat) : Int)) a (f b)) b (f a) = fun i => ((Stb.swp f a b i : Nat) : Int) := by
  by_cases h : a = b
  · subst h
    funext i
    unfold updI Stb.swp
    by_cases h1 : i = a
    · rw [if_pos h1, if_pos h1]
    · rw [if_neg h1, if_neg h1, if_neg h1, if_neg h1]
  · exact swp_ints f h
theorem Sh.swap {w0 : World} {g n : Nat} (hge : w0.heap.size ≤ g) {f : Nat → Nat} {w : World} (h : Sh w0 g n f w) (x y : Nat) :
    Sh w0 g n (swp f x y) ((w.setCell ⟨g, x, none⟩ (.int .i64 (f y : Int))).setCell ⟨g, y, none⟩ (.int .i64 (f x : Int))) := by
  have o1 := h.own.set x (f y : Int)
  have b1 := h.bl.setCell (p := ⟨g, x, none⟩) hge (.int .i64 (f y : Int))
  have o2 := o1.set y (f x : Int)
  have b2 := b1.setCell (p := ⟨g, y, none⟩) hge (.int .i64 (f x : Int))
  rw [swp_ints'] at o2
  exact ⟨o2, b2⟩
def ShPost (w : World) (n : Nat) (e : Ending) (w' : World) : Prop := ∃ (G : Nat) (g : Nat → Nat), w.heap.size ≤ G ∧ e = .returned (.slice (some ⟨G, 0, none⟩) n n) ∧ OwnI w' G n (nI g) ∧ Re 0 n id g ∧ Below w.heap.size w w'
set_option maxHeartbeats 8000000 in
set_option maxRecDepth 100000 in
set_option linter.unusedSimpArgs false in
theorem shuffled_any (n : Nat) (ma : Option Addr) (mn mc : Nat) (mf : Nat → Int) (w : World) (hn : n ≤ 1000) (hm : IRow w ma mn mc mf) (hmn : mn ≤ 100000) :
    Calls Try.prog 10 #[.int .i64 (n : Int), .slice ma mn mc] w (ShPost w n) := by
  have HM := hide hm
  have mk := make_ints n (by omega) w
  have O0 := hide (make_own w n)
  have B0 := hide (alloc_below w (.cells (lrow (fun _ => 0) n).toArray 3))
  obtain ⟨W0, hW0⟩ : ∃ W, w.alloc (.cells (lrow (fun _ => 0) n).toArray 3) = W := ⟨_, rfl⟩
  rw [hW0] at mk O0 B0
  obtain ⟨G, hG⟩ : ∃ G, w.heap.size = G := ⟨_, rfl⟩
  rw [hG] at mk O0
  have HGE : Hid (w.heap.size ≤ G) := Nat.le_of_eq hG
  clear hm hW0 hG
  go_enter Try.func10, Try.ntmps10
  go_wp2_with fail
  clear mk
  go_loopw [6] (fun vi wr => ∃ k : Nat, vi = .int .i64 (k : Int) ∧ k ≤ n ∧ OwnI wr G n (fun i => if i < k then (i : Int) else 0) ∧ Below w.heap.size w wr) (fun vi _ => n - (intOf vi).toNat)
  case atStart => exact ⟨0, rfl, Nat.zero_le _, (unhide O0).congr (fun j _ => by simp), unhide B0⟩
  case round =>
    obtain ⟨k, rfl, hk, hO, hb⟩ := hrel
    by_cases hlt : k < n
    · have e1 : (0 : Int) ≤ (k : Int) := by omega
      have e2 : (k : Int) < (n : Int) := by omega
      have e6 : IntKind.i64.wrap ((k : Int) + 1) = (k : Int) + 1 := by rw [IntKind.wrap_i64]; omega
      have g1 := hO.cell hlt
      have g2 := hO.free k
      obtain ⟨u, g1⟩ : ∃ u : Value, wr.cell? ⟨G, k, none⟩ = some u := ⟨_, g1⟩
      have FIN : Hid (OwnI (wr.setCell ⟨G, k, none⟩ (.int .i64 (k : Int))) G n (fun i => if i < k + 1 then (i : Int) else 0)) := by
        refine (hO.set k (k : Int)).congr fun j hj => ?_
        unfold updI
        by_cases hjk : j = k
        · rw [if_pos hjk, if_pos (by omega), hjk]
        · rw [if_neg hjk]
          show (if j < k then (j : Int) else 0) = _
          by_cases h2 : j < k
          · rw [if_pos h2, if_pos (by omega)]
          · rw [if_neg h2, if_neg (by omega)]
      have FB := hide (hb.setCell (p := ⟨G, k, none⟩) (unhide HGE) (.int .i64 (k : Int)))
      clear hO hb
      go_wp2
      exact ⟨⟨k + 1, by go_num, hlt, unhide FIN, unhide FB⟩, by simp [intOf]; omega⟩
    · obtain rfl : k = n := by omega
      have e1 : ¬ (k : Int) < (k : Int) := by omega
      have HS0 : Hid (Sh w G k id wr) := ⟨hO.congr fun j hj => by simp [hj], hb⟩
      clear hO hb
      go_wp2_with fail
      (try simp only [Exit.inBlock, Exit.then])
      (try go_wp2_with fail)
      go_loopw [7] (fun vi wr => ∃ (i : Nat) (s : Nat → Nat), vi = .int .i64 (i : Int) ∧ i ≤ mn ∧ Sh w G k s wr ∧ Re 0 k id s) (fun vi _ => mn - (intOf vi).toNat)
      case atStart => exact ⟨0, id, rfl, Nat.zero_le _, unhide HS0, Re.refl _ _ _⟩
      case round =>
        obtain ⟨i, fj, rfl, hi, hS, hre⟩ := hrel
        have HAT := hide hS
        have HRE := hide hre
        clear hS hre HS0
        by_cases hlt : i < mn
        · have e2 : (i : Int) < (mn : Int) := by omega
          by_cases hn0 : k = 0
          · subst hn0
            go_wp2
            (try simp only [Exit.inBlock, Exit.then])
            (try go_wp2)
            go_ret
            exact ⟨G, fj, unhide HGE, rfl, (unhide HAT).own, unhide HRE, (unhide HAT).bl⟩
          · obtain ⟨b, o, rfl, hbl, hc⟩ := ((unhide HM).below (unhide HAT).bl).2.2 (by omega)
            have c0 := hc i hlt
            obtain ⟨v, hv⟩ : ∃ v, mf i = v := ⟨_, rfl⟩
            rw [hv] at c0
            have hpos : 0 < k := by omega
            have dk : decide (0 < k) = true := decide_eq_true hpos
            have e3 : (0 : Int) ≤ (i : Int) := by omega
            have e6 : IntKind.i64.wrap ((i : Int) + 1) = (i : Int) + 1 := by rw [IntKind.wrap_i64]; omega
            have HCC : Hid (∀ W, Below wr.heap.size wr W → (fun w' : World => w'.cell? ⟨b, o + i, none⟩ = some (.int .i64 v)) W) := fun W hW => by show W.cell? ⟨b, o + i, none⟩ = _; rw [hW.cell (p := ⟨b, o + i, none⟩) hbl]; exact c0
            have HP1 : Hid (∀ W, Calls Try.prog 22 #[.int .i64 (i : Int), .int .i64 (k : Int)] W fun e w' => ∃ x : Nat, e = .returned (.int .i64 (x : Int)) ∧ x < k ∧ w' = W) := fun W => pick_any i k hpos hn W
            have HP2 : Hid (∀ W, Calls Try.prog 22 #[.int .i64 v, .int .i64 (k : Int)] W fun e w' => ∃ x : Nat, e = .returned (.int .i64 (x : Int)) ∧ x < k ∧ w' = W) := fun W => pick_any v k hpos hn W
            have hk1 : (0 : Int) < (k : Int) := by omega
            clear hc c0 hv hpos hn0
            go_wp2_with fail
            clear dk hk1
            refine wp_region_hold (fun w' : World => w'.cell? ⟨b, o + i, none⟩ = some (.int .i64 v)) (by kernel_rfl) ?_
            have bd0 : Below wr.heap.size wr wr.drew := (Below.refl _ _).drew
            have hC0 : (fun w' : World => w'.cell? ⟨b, o + i, none⟩ = some (.int .i64 v)) wr.drew := unhide HCC _ bd0
            refine wpHold_take (i := 0) (v := ?_) rfl (by kernel_rfl) (by kernel_rfl) (by kernel_rfl) (fun _ _ _ h => h) (Or.inl ⟨by rfl, ?_⟩) hC0 ?_
            rotate_left
            · intro w hSw; clear hSw; go_simp; (try with_reducible rfl)
            (try simp only [List.getElem_toArray, List.getElem_cons_succ, List.getElem_cons_zero])
            (try simp only [Act.put, List.setIfInBounds_toArray, List.set_cons_zero, List.set_cons_succ])
            refine wpHold_take (i := 1) (v := ?_) rfl (by kernel_rfl) (by kernel_rfl) (by kernel_rfl) (fun _ _ _ h => h) (Or.inl ⟨by rfl, ?_⟩) hC0 ?_
            rotate_left
            · intro w hSw; clear hSw; go_simp; (try with_reducible rfl)
            (try simp only [List.getElem_toArray, List.getElem_cons_succ, List.getElem_cons_zero])
            (try simp only [Act.put, List.setIfInBounds_toArray, List.set_cons_zero, List.set_cons_succ])
            refine wpHold_take (i := 3) (v := ?_) rfl (by kernel_rfl) (by kernel_rfl) (by kernel_rfl) (fun _ _ _ h => h) (Or.inl ⟨by rfl, ?_⟩) hC0 ?_
            rotate_left
            · intro w hSw; clear hSw; go_simp; (try with_reducible rfl)
            (try simp only [List.getElem_toArray, List.getElem_cons_succ, List.getElem_cons_zero])
            (try simp only [Act.put, List.setIfInBounds_toArray, List.set_cons_zero, List.set_cons_succ])
            refine wpHold_take (i := 4) (v := ?_) rfl (by kernel_rfl) (by kernel_rfl) (by kernel_rfl) (fun _ _ _ h => h) (Or.inl ⟨by rfl, ?_⟩) hC0 ?_
            rotate_left
            · intro w hSw; clear hSw; go_simp; (try with_reducible rfl)
            (try simp only [List.getElem_toArray, List.getElem_cons_succ, List.getElem_cons_zero])
            (try simp only [Act.put, List.setIfInBounds_toArray, List.set_cons_zero, List.set_cons_succ])
            refine wpHold_take (i := 5) (v := ?_) rfl (by kernel_rfl) (by kernel_rfl) (by kernel_rfl) (fun _ _ _ h => h) (Or.inl ⟨by rfl, ?_⟩) hC0 ?_
            rotate_left
            · intro w hSw; clear hSw; go_simp; (try with_reducible rfl)
            (try simp only [List.getElem_toArray, List.getElem_cons_succ, List.getElem_cons_zero])
            (try simp only [Act.put, List.setIfInBounds_toArray, List.set_cons_zero, List.set_cons_succ])
            refine wpHold_take (i := 6) (v := ?_) rfl (by kernel_rfl) (by kernel_rfl) (by kernel_rfl) (fun _ _ _ h => h) (Or.inl ⟨by rfl, ?_⟩) hC0 ?_
            rotate_left
            · intro w hSw; (try dsimp only at hSw); obtain z0 := hSw; go_simp; (try with_reducible rfl)
            (try simp only [List.getElem_toArray, List.getElem_cons_succ, List.getElem_cons_zero])
            (try simp only [Act.put, List.setIfInBounds_toArray, List.set_cons_zero, List.set_cons_succ])
            refine wpHold_take (i := 7) (v := ?_) rfl (by kernel_rfl) (by kernel_rfl) (by kernel_rfl) (fun _ _ _ h => h) (Or.inl ⟨by rfl, ?_⟩) hC0 ?_
            rotate_left
            · intro w hSw; clear hSw; go_simp; (try with_reducible rfl)
            (try simp only [List.getElem_toArray, List.getElem_cons_succ, List.getElem_cons_zero])
            (try simp only [Act.put, List.setIfInBounds_toArray, List.set_cons_zero, List.set_cons_succ])
            refine wpHold_one (k := 2) (by kernel_rfl) rfl (fun K hK => ?_)
            (try simp only [List.getElem_toArray, List.getElem_cons_succ, List.getElem_cons_zero])
            go_simp
            refine (unhide HP1 _).mono ?_
            rintro e xw_1 ⟨x, rfl, hxn, rfl⟩
            refine hK.out _ _ hC0 ?_
            clear hK K
            (try simp only [Act.put, List.setIfInBounds_toArray, List.set_cons_zero, List.set_cons_succ])
            refine wpHold_one (k := 8) (by kernel_rfl) rfl (fun K hK => ?_)
            (try simp only [List.getElem_toArray, List.getElem_cons_succ, List.getElem_cons_zero])
            go_simp
            refine (unhide HP2 _).mono ?_
            rintro e xw_2 ⟨y, rfl, hyn, rfl⟩
            refine hK.out _ _ hC0 ?_
            clear hK K
            (try simp only [Act.put, List.setIfInBounds_toArray, List.set_cons_zero, List.set_cons_succ])
            refine wpHold_take (i := 9) (v := ?_) rfl (by kernel_rfl) (by kernel_rfl) (by kernel_rfl) (fun _ _ _ h => h) (Or.inl ⟨by rfl, ?_⟩) hC0 ?_
            rotate_left
            · intro w hSw; clear hSw; go_simp; (try with_reducible rfl)
            (try simp only [List.getElem_toArray, List.getElem_cons_succ, List.getElem_cons_zero])
            (try simp only [Act.put, List.setIfInBounds_toArray, List.set_cons_zero, List.set_cons_succ])
            refine wpHold_take (i := 10) (v := ?_) rfl (by kernel_rfl) (by kernel_rfl) (by kernel_rfl) (fun _ _ _ h => h) (Or.inl ⟨by rfl, ?_⟩) hC0 ?_
            rotate_left
            · intro w hSw; clear hSw; go_simp; (try with_reducible rfl)
            (try simp only [List.getElem_toArray, List.getElem_cons_succ, List.getElem_cons_zero])
            (try simp only [Act.put, List.setIfInBounds_toArray, List.set_cons_zero, List.set_cons_succ])
            refine wpHold_done (by kernel_rfl) ?_ _
            have HAT' := hide ((unhide HAT).keep bd0)
            clear HAT
            have HAT := HAT'
            clear HAT' hC0 bd0
            obtain ⟨wd, hwd⟩ : ∃ W, wr.drew = W := ⟨_, rfl⟩
            rw [hwd] at HAT ⊢
            clear hwd
            have e7 : (0 : Int) ≤ (x : Int) := by omega
            have e8 : (x : Int) < (k : Int) := by omega
            have e9 : (0 : Int) ≤ (y : Int) := by omega
            have e10 : (y : Int) < (k : Int) := by omega
            clear HCC HP1 HP2
            go_wp2_with fail
            obtain ⟨vx, hvx⟩ : ∃ v, fj x = v := ⟨_, rfl⟩
            obtain ⟨vy, hvy⟩ : ∃ v, fj y = v := ⟨_, rfl⟩
            have HVX := hide hvx
            have HVY := hide hvy
            have HCC : Hid (∀ W, Below wd.heap.size wd W → (fun w' : World => w'.cell? ⟨G, x, none⟩ = some (.int .i64 (vx : Int)) ∧ w'.cell? ⟨G, y, none⟩ = some (.int .i64 (vy : Int))) W) := fun W hW => ⟨by rw [hW.cell (p := ⟨G, x, none⟩) (unhide HAT).own.lt, (unhide HAT).own.cell hxn, hvx], by rw [hW.cell (p := ⟨G, y, none⟩) (unhide HAT).own.lt, (unhide HAT).own.cell hyn, hvy]⟩
            clear hvx hvy
            refine wp_region_till (fun w' : World => w'.cell? ⟨G, x, none⟩ = some (.int .i64 (vx : Int)) ∧ w'.cell? ⟨G, y, none⟩ = some (.int .i64 (vy : Int))) 13 (by kernel_rfl) ?_
            have bd0 : Below wd.heap.size wd wd.drew := (Below.refl _ _).drew
            obtain ⟨WD, hWD⟩ : ∃ W, wd.drew = W := ⟨_, rfl⟩
            rw [hWD] at bd0 ⊢
            have hC0 : (fun w' : World => w'.cell? ⟨G, x, none⟩ = some (.int .i64 (vx : Int)) ∧ w'.cell? ⟨G, y, none⟩ = some (.int .i64 (vy : Int))) WD := unhide HCC _ bd0
            refine wpTill_pure (i := 0) (v := ?_) rfl (by kernel_rfl) (by kernel_rfl) (by kernel_rfl) (by kernel_rfl) (fun _ _ _ h => h) (Or.inl ⟨by rfl, ?_⟩) (fun _ => hC0) ?_
            rotate_left
            · intro w hSw; clear hSw; go_simp; (try with_reducible rfl)
            (try simp only [List.getElem_toArray, List.getElem_cons_succ, List.getElem_cons_zero])
            (try simp only [Act.put, List.setIfInBounds_toArray, List.set_cons_zero, List.set_cons_succ])
            refine wpTill_pure (i := 1) (v := ?_) rfl (by kernel_rfl) (by kernel_rfl) (by kernel_rfl) (by kernel_rfl) (fun _ _ _ h => h) (Or.inl ⟨by rfl, ?_⟩) (fun _ => hC0) ?_
            rotate_left
            · intro w hSw; clear hSw; go_simp; (try with_reducible rfl)
            (try simp only [List.getElem_toArray, List.getElem_cons_succ, List.getElem_cons_zero])
            (try simp only [Act.put, List.setIfInBounds_toArray, List.set_cons_zero, List.set_cons_succ])
            refine wpTill_pure (i := 2) (v := ?_) rfl (by kernel_rfl) (by kernel_rfl) (by kernel_rfl) (by kernel_rfl) (fun _ _ _ h => h) (Or.inl ⟨by rfl, ?_⟩) (fun _ => hC0) ?_
            rotate_left
            · intro w hSw; clear hSw; go_simp; (try with_reducible rfl)
            (try simp only [List.getElem_toArray, List.getElem_cons_succ, List.getElem_cons_zero])
            (try simp only [Act.put, List.setIfInBounds_toArray, List.set_cons_zero, List.set_cons_succ])
            refine wpTill_pure (i := 3) (v := ?_) rfl (by kernel_rfl) (by kernel_rfl) (by kernel_rfl) (by kernel_rfl) (fun _ _ _ h => h) (Or.inl ⟨by rfl, ?_⟩) (fun _ => hC0) ?_
            rotate_left
            · intro w hSw; clear hSw; go_simp; (try with_reducible rfl)
            (try simp only [List.getElem_toArray, List.getElem_cons_succ, List.getElem_cons_zero])
            (try simp only [Act.put, List.setIfInBounds_toArray, List.set_cons_zero, List.set_cons_succ])
            refine wpTill_pure (i := 4) (v := ?_) rfl (by kernel_rfl) (by kernel_rfl) (by kernel_rfl) (by kernel_rfl) (fun _ _ _ h => h) (Or.inl ⟨by rfl, ?_⟩) (fun _ => hC0) ?_
            rotate_left
            · intro w hSw; clear hSw; go_simp; (try with_reducible rfl)
            (try simp only [List.getElem_toArray, List.getElem_cons_succ, List.getElem_cons_zero])
            (try simp only [Act.put, List.setIfInBounds_toArray, List.set_cons_zero, List.set_cons_succ])
            refine wpTill_pure (i := 5) (v := ?_) rfl (by kernel_rfl) (by kernel_rfl) (by kernel_rfl) (by kernel_rfl) (fun _ _ _ h => h) (Or.inl ⟨by rfl, ?_⟩) (fun _ => hC0) ?_
            rotate_left
            · intro w hSw; clear hSw; go_simp; (try with_reducible rfl)
            (try simp only [List.getElem_toArray, List.getElem_cons_succ, List.getElem_cons_zero])
            (try simp only [Act.put, List.setIfInBounds_toArray, List.set_cons_zero, List.set_cons_succ])
            refine wpTill_pure (i := 6) (v := ?_) rfl (by kernel_rfl) (by kernel_rfl) (by kernel_rfl) (by kernel_rfl) (fun _ _ _ h => h) (Or.inl ⟨by rfl, ?_⟩) (fun _ => hC0) ?_
            rotate_left
            · intro w hSw; clear hSw; go_simp; (try with_reducible rfl)
            (try simp only [List.getElem_toArray, List.getElem_cons_succ, List.getElem_cons_zero])
            (try simp only [Act.put, List.setIfInBounds_toArray, List.set_cons_zero, List.set_cons_succ])
            refine wpTill_take (i := 7) (v := ?_) rfl (by kernel_rfl) (by kernel_rfl) (by kernel_rfl) (by kernel_rfl) (by kernel_rfl) (by kernel_rfl) (fun _ _ _ h => h) (Or.inl ⟨by rfl, ?_⟩) hC0 ?_
            rotate_left
            · intro w hSw; (try dsimp only at hSw); obtain ⟨z0, z1⟩ := hSw; go_simp; (try with_reducible rfl)
            (try simp only [List.getElem_toArray, List.getElem_cons_succ, List.getElem_cons_zero])
            (try simp only [Act.put, List.setIfInBounds_toArray, List.set_cons_zero, List.set_cons_succ])
            refine wpTill_pure (i := 8) (v := ?_) rfl (by kernel_rfl) (by kernel_rfl) (by kernel_rfl) (by kernel_rfl) (fun _ _ _ h => h) (Or.inl ⟨by rfl, ?_⟩) (fun _ => hC0) ?_
            rotate_left
            · intro w hSw; clear hSw; go_simp; (try with_reducible rfl)
            (try simp only [List.getElem_toArray, List.getElem_cons_succ, List.getElem_cons_zero])
            (try simp only [Act.put, List.setIfInBounds_toArray, List.set_cons_zero, List.set_cons_succ])
            refine wpTill_pure (i := 9) (v := ?_) rfl (by kernel_rfl) (by kernel_rfl) (by kernel_rfl) (by kernel_rfl) (fun _ _ _ h => h) (Or.inl ⟨by rfl, ?_⟩) (fun _ => hC0) ?_
            rotate_left
            · intro w hSw; clear hSw; go_simp; (try with_reducible rfl)
            (try simp only [List.getElem_toArray, List.getElem_cons_succ, List.getElem_cons_zero])
            (try simp only [Act.put, List.setIfInBounds_toArray, List.set_cons_zero, List.set_cons_succ])
            refine wpTill_pure (i := 10) (v := ?_) rfl (by kernel_rfl) (by kernel_rfl) (by kernel_rfl) (by kernel_rfl) (fun _ _ _ h => h) (Or.inl ⟨by rfl, ?_⟩) (fun _ => hC0) ?_
            rotate_left
            · intro w hSw; clear hSw; go_simp; (try with_reducible rfl)
            (try simp only [List.getElem_toArray, List.getElem_cons_succ, List.getElem_cons_zero])
            (try simp only [Act.put, List.setIfInBounds_toArray, List.set_cons_zero, List.set_cons_succ])
            refine wpTill_take (i := 11) (v := ?_) rfl (by kernel_rfl) (by kernel_rfl) (by kernel_rfl) (by kernel_rfl) (by kernel_rfl) (by kernel_rfl) (fun _ _ _ h => h) (Or.inl ⟨by rfl, ?_⟩) hC0 ?_
            rotate_left
            · intro w hSw; (try dsimp only at hSw); obtain ⟨z0, z1⟩ := hSw; go_simp; (try with_reducible rfl)
            (try simp only [List.getElem_toArray, List.getElem_cons_succ, List.getElem_cons_zero])
            (try simp only [Act.put, List.setIfInBounds_toArray, List.set_cons_zero, List.set_cons_succ])
            refine wpTill_pure (i := 12) (v := ?_) rfl (by kernel_rfl) (by kernel_rfl) (by kernel_rfl) (by kernel_rfl) (fun _ _ _ h => h) (Or.inl ⟨by rfl, ?_⟩) (fun _ => hC0) ?_
            rotate_left
            · intro w hSw; clear hSw; go_simp; (try with_reducible rfl)
            (try simp only [List.getElem_toArray, List.getElem_cons_succ, List.getElem_cons_zero])
            (try simp only [Act.put, List.setIfInBounds_toArray, List.set_cons_zero, List.set_cons_succ])
            have at0 := (unhide HAT).keep bd0
            have y0 := at0.own.cell hxn
            have l0 := at0.own.free x
            have at2 := at0.swap (unhide HGE) x y
            have o1 := at0.own.set x (vy : Int)
            rw [unhide HVX, unhide HVY] at at2
            obtain ⟨W5, hW5⟩ : ∃ W, WD.setCell ⟨G, x, none⟩ (.int .i64 (vy : Int)) = W := ⟨_, rfl⟩
            rw [hW5] at at2 o1
            have y1 := o1.cell hyn
            have l1 := o1.free y
            obtain ⟨W6, hW6⟩ : ∃ W, W5.setCell ⟨G, y, none⟩ (.int .i64 (vx : Int)) = W := ⟨_, rfl⟩
            rw [hW6] at at2
            have HA2 := hide at2
            obtain ⟨u0, y0⟩ : ∃ u : Value, WD.cell? ⟨G, x, none⟩ = some u := ⟨_, y0⟩
            obtain ⟨u1, y1⟩ : ∃ u : Value, W5.cell? ⟨G, y, none⟩ = some u := ⟨_, y1⟩
            clear at0 at2 o1
            refine wpTill_one (k := 13) (by kernel_rfl) rfl (fun K hK => ?_)
            (try simp only [List.getElem_toArray, List.getElem_cons_succ, List.getElem_cons_zero])
            go_simp
            refine hK.out _ _ (fun h => absurd (h.symm.trans (by kernel_rfl)) Bool.false_ne_true) ?_
            clear hK K
            (try simp only [Act.put, List.setIfInBounds_toArray, List.set_cons_zero, List.set_cons_succ])
            refine wpTill_one (k := 14) (by kernel_rfl) rfl (fun K hK => ?_)
            (try simp only [List.getElem_toArray, List.getElem_cons_succ, List.getElem_cons_zero])
            go_simp
            refine hK.out _ _ (fun h => absurd (h.symm.trans (by kernel_rfl)) Bool.false_ne_true) ?_
            clear hK K
            (try simp only [Act.put, List.setIfInBounds_toArray, List.set_cons_zero, List.set_cons_succ])
            refine wpTill_one (k := 15) (by kernel_rfl) rfl (fun K hK => ?_)
            (try simp only [List.getElem_toArray, List.getElem_cons_succ, List.getElem_cons_zero])
            go_simp
            refine hK.out _ _ (fun h => absurd (h.symm.trans (by kernel_rfl)) Bool.false_ne_true) ?_
            clear hK K
            (try simp only [Act.put, List.setIfInBounds_toArray, List.set_cons_zero, List.set_cons_succ])
            refine wpTill_done (by kernel_rfl) ?_ _
            clear hC0 bd0 HCC hW5 hW6 hWD y0 y1 l0 l1
            go_wp2_with fail
            exact ⟨⟨i + 1, swp fj x y, by go_num, hlt, unhide HA2, (unhide HRE).trans (Re.swp fj (Nat.zero_le _) hxn (Nat.zero_le _) hyn)⟩, by simp [intOf]; omega⟩
        · obtain rfl : i = mn := by omega
          have e2 : ¬ (i : Int) < (i : Int) := by omega
          go_wp2
          (try simp only [Exit.inBlock, Exit.then])
          (try go_wp2)
          go_ret
          exact ⟨G, fj, unhide HGE, rfl, (unhide HAT).own, unhide HRE, (unhide HAT).bl⟩
end Go.Proofs.Ytepgdlgifempeaa
