/- Hu: counts, the comparison, parted. -/
import Derived.Test.YtepgdlgifempeaaDoorY20
namespace Go.Proofs.YtepgdlgifempeaaDoor
open Go.RowKit Go.Sort Stb Hux

set_option maxHeartbeats 8000000 in
set_option maxRecDepth 100000 in
set_option linter.unusedSimpArgs false in
theorem hu1_any (pa : Nat) (a : Option Addr) (n c : Nat) (l : Nat → Int) (wb W : World) (i k : Nat) (hi : i < n) (hk : k < n) (hn : n ≤ 60) (ha : IRow wb a n c l) (h1 : wb.cell? ⟨pa, 0, none⟩ = some (.slice a n c)) (hpa : pa < wb.heap.size) (hW : Below wb.heap.size wb W) :
    Calls Tryd.prog 47 #[.int .i64 (i : Int), .int .i64 (k : Int), .pointer (some ⟨pa, 0, none⟩)] W fun e w' => e = .returned (.int .i64 (cmpI (l k) (l i))) ∧ Below W.heap.size W w' := by
  obtain ⟨b, o, rfl, hbl, hc⟩ := ha.2.2 (by omega)
  have hi' := hc i hi
  have hk' := hc k hk
  obtain ⟨x, hx⟩ : ∃ t, l i = t := ⟨_, rfl⟩
  obtain ⟨y, hy⟩ : ∃ t, l k = t := ⟨_, rfl⟩
  rw [hx] at hi' ⊢
  rw [hy] at hk' ⊢
  have HCC : Hid (∀ W', Below W.heap.size W W' → (fun w' : World => w'.cell? ⟨pa, 0, none⟩ = some (.slice (some ⟨b, o, none⟩) n c) ∧ w'.cell? ⟨b, o + i, none⟩ = some (.int .i64 x) ∧ w'.cell? ⟨b, o + k, none⟩ = some (.int .i64 y)) W') := fun W' hW' => by
    have B := below_step hW hW'
    refine ⟨by rw [B.cell (p := ⟨pa, 0, none⟩) hpa]; exact h1, ?_, ?_⟩
    · rw [B.cell (p := ⟨b, o + i, none⟩) hbl]; exact hi'
    · rw [B.cell (p := ⟨b, o + k, none⟩) hbl]; exact hk'
  have e1 : (i : Int) < (n : Int) := by omega
  have e2 : (k : Int) < (n : Int) := by omega
  have e3 : (0 : Int) ≤ (i : Int) := by omega
  have e4 : (0 : Int) ≤ (k : Int) := by omega
  clear hi' hk' hx hy hc ha h1 hpa hW hbl hi hk
  go_enter Tryd.func47, Tryd.ntmps47
  go_wp2_with fail
  refine wp_region_hold (fun w' : World => w'.cell? ⟨pa, 0, none⟩ = some (.slice (some ⟨b, o, none⟩) n c) ∧ w'.cell? ⟨b, o + i, none⟩ = some (.int .i64 x) ∧ w'.cell? ⟨b, o + k, none⟩ = some (.int .i64 y)) (by kernel_rfl) ?_
  have bd0 : Below W.heap.size W W.drew := (Below.refl _ _).drew
  have hC0 : (fun w' : World => w'.cell? ⟨pa, 0, none⟩ = some (.slice (some ⟨b, o, none⟩) n c) ∧ w'.cell? ⟨b, o + i, none⟩ = some (.int .i64 x) ∧ w'.cell? ⟨b, o + k, none⟩ = some (.int .i64 y)) W.drew := unhide HCC _ bd0
  refine wpHold_take (i := 0) (v := ?_) rfl (by kernel_rfl) (by kernel_rfl) (by kernel_rfl) (fun _ _ _ h => h) (Or.inl ⟨by rfl, ?_⟩) hC0 ?_
  rotate_left
  · intro w hSw; (try dsimp only at hSw); obtain ⟨z0, z1, z2⟩ := hSw; go_simp; (try with_reducible rfl)
  (try simp only [List.getElem_toArray, List.getElem_cons_succ, List.getElem_cons_zero])
  (try simp only [Act.put, List.setIfInBounds_toArray, List.set_cons_zero, List.set_cons_succ])
  refine wpHold_take (i := 1) (v := ?_) rfl (by kernel_rfl) (by kernel_rfl) (by kernel_rfl) (fun _ _ _ h => h) (Or.inl ⟨by rfl, ?_⟩) hC0 ?_
  rotate_left
  · intro w hSw; clear hSw; go_simp; (try with_reducible rfl)
  (try simp only [List.getElem_toArray, List.getElem_cons_succ, List.getElem_cons_zero])
  (try simp only [Act.put, List.setIfInBounds_toArray, List.set_cons_zero, List.set_cons_succ])
  refine wpHold_take (i := 2) (v := ?_) rfl (by kernel_rfl) (by kernel_rfl) (by kernel_rfl) (fun _ _ _ h => h) (Or.inl ⟨by rfl, ?_⟩) hC0 ?_
  rotate_left
  · intro w hSw; clear hSw; go_simp; (try with_reducible rfl)
  (try simp only [List.getElem_toArray, List.getElem_cons_succ, List.getElem_cons_zero])
  (try simp only [Act.put, List.setIfInBounds_toArray, List.set_cons_zero, List.set_cons_succ])
  refine wpHold_take (i := 3) (v := ?_) rfl (by kernel_rfl) (by kernel_rfl) (by kernel_rfl) (fun _ _ _ h => h) (Or.inl ⟨by rfl, ?_⟩) hC0 ?_
  rotate_left
  · intro w hSw; (try dsimp only at hSw); obtain ⟨z0, z1, z2⟩ := hSw; go_simp; (try with_reducible rfl)
  (try simp only [List.getElem_toArray, List.getElem_cons_succ, List.getElem_cons_zero])
  (try simp only [Act.put, List.setIfInBounds_toArray, List.set_cons_zero, List.set_cons_succ])
  refine wpHold_take (i := 4) (v := ?_) rfl (by kernel_rfl) (by kernel_rfl) (by kernel_rfl) (fun _ _ _ h => h) (Or.inl ⟨by rfl, ?_⟩) hC0 ?_
  rotate_left
  · intro w hSw; (try dsimp only at hSw); obtain ⟨z0, z1, z2⟩ := hSw; go_simp; (try with_reducible rfl)
  (try simp only [List.getElem_toArray, List.getElem_cons_succ, List.getElem_cons_zero])
  (try simp only [Act.put, List.setIfInBounds_toArray, List.set_cons_zero, List.set_cons_succ])
  refine wpHold_take (i := 5) (v := ?_) rfl (by kernel_rfl) (by kernel_rfl) (by kernel_rfl) (fun _ _ _ h => h) (Or.inl ⟨by rfl, ?_⟩) hC0 ?_
  rotate_left
  · intro w hSw; clear hSw; go_simp; (try with_reducible rfl)
  (try simp only [List.getElem_toArray, List.getElem_cons_succ, List.getElem_cons_zero])
  (try simp only [Act.put, List.setIfInBounds_toArray, List.set_cons_zero, List.set_cons_succ])
  refine wpHold_take (i := 6) (v := ?_) rfl (by kernel_rfl) (by kernel_rfl) (by kernel_rfl) (fun _ _ _ h => h) (Or.inl ⟨by rfl, ?_⟩) hC0 ?_
  rotate_left
  · intro w hSw; clear hSw; go_simp; (try with_reducible rfl)
  (try simp only [List.getElem_toArray, List.getElem_cons_succ, List.getElem_cons_zero])
  (try simp only [Act.put, List.setIfInBounds_toArray, List.set_cons_zero, List.set_cons_succ])
  refine wpHold_take (i := 7) (v := ?_) rfl (by kernel_rfl) (by kernel_rfl) (by kernel_rfl) (fun _ _ _ h => h) (Or.inl ⟨by rfl, ?_⟩) hC0 ?_
  rotate_left
  · intro w hSw; (try dsimp only at hSw); obtain ⟨z0, z1, z2⟩ := hSw; go_simp; (try with_reducible rfl)
  (try simp only [List.getElem_toArray, List.getElem_cons_succ, List.getElem_cons_zero])
  (try simp only [Act.put, List.setIfInBounds_toArray, List.set_cons_zero, List.set_cons_succ])
  refine wpHold_one (k := 8) (by kernel_rfl) rfl (fun K hK => ?_)
  (try simp only [List.getElem_toArray, List.getElem_cons_succ, List.getElem_cons_zero])
  go_simp
  refine (compare_any y x _).mono ?_
  rintro e xw_1 ⟨rfl, rfl⟩
  refine hK.out _ _ hC0 ?_
  clear hK K
  (try simp only [Act.put, List.setIfInBounds_toArray, List.set_cons_zero, List.set_cons_succ])
  refine wpHold_take (i := 9) (v := ?_) rfl (by kernel_rfl) (by kernel_rfl) (by kernel_rfl) (fun _ _ _ h => h) (Or.inl ⟨by rfl, ?_⟩) hC0 ?_
  rotate_left
  · intro w hSw; clear hSw; go_simp; (try with_reducible rfl)
  (try simp only [List.getElem_toArray, List.getElem_cons_succ, List.getElem_cons_zero])
  (try simp only [Act.put, List.setIfInBounds_toArray, List.set_cons_zero, List.set_cons_succ])
  refine wpHold_done (by kernel_rfl) ?_ _
  have HBN := hide bd0
  clear hC0 bd0 HCC
  go_wp2
  go_ret
  exact ⟨rfl, unhide HBN⟩

theorem eg_h (args : Array Value) (w : World) : (callFunc 47 args).run Tryd.prog w = .ok (.enter 47 args) w := by
  go_simp

set_option maxHeartbeats 8000000 in
set_option maxRecDepth 100000 in
set_option linter.unusedSimpArgs false in
theorem counts_any (a : Option Addr) (n c : Nat) (nx : Nat → Int) (w : World) (ha : IRow w a n c nx) (hn : n ≤ 60) (hN : GoodN n nx) :
    Calls Tryd.prog 48 #[.slice a n c] w fun e w' => ∃ G, w.heap.size ≤ G ∧ e = .returned (.slice (some ⟨G, 0, none⟩) n n) ∧ OwnI w' G n (fun i => (ahd nx (List.range n) i : Int)) ∧ Below w.heap.size w w' := by
  have HA := hide ha
  have HN := hide hN
  have mk := make_ints n (by omega) w
  have O0 := hide (make_own w n)
  have B0 := hide (alloc_below w (.cells (lrow (fun _ => 0) n).toArray 3))
  obtain ⟨W0, hW0⟩ : ∃ W, w.alloc (.cells (lrow (fun _ => 0) n).toArray 3) = W := ⟨_, rfl⟩
  rw [hW0] at mk O0 B0
  obtain ⟨G, hG⟩ : ∃ G, w.heap.size = G := ⟨_, rfl⟩
  rw [hG] at mk O0
  have HGe : Hid (w.heap.size ≤ G) := Nat.le_of_eq hG
  clear hW0 hG ha hN
  go_enter Tryd.func48, Tryd.ntmps48
  go_wp2_with fail
  clear mk
  go_loopw [11] (fun vi wr => ∃ k : Nat, vi = .int .i64 (k : Int) ∧ k ≤ n ∧ OwnI wr G n (fun i => (ahd nx (List.range k) i : Int)) ∧ Below w.heap.size w wr) (fun vi _ => n - (intOf vi).toNat)
  case atStart => exact ⟨0, rfl, Nat.zero_le _, (unhide O0).congr (fun j _ => rfl), unhide B0⟩
  case round =>
    obtain ⟨k, rfl, hk, hO, hb⟩ := hrel
    by_cases hlt : k < n
    · obtain ⟨b, o, rfl, hbl, hc⟩ := ((unhide HA).below hb).2.2 (by omega)
      have c0 := hc k hlt
      have hrg := (unhide HN).rng k hlt
      obtain ⟨x, hx⟩ : ∃ x, nx k = x := ⟨_, rfl⟩
      rw [hx] at c0 hrg
      have e1 : (0 : Int) ≤ (k : Int) := by omega
      have e2 : (k : Int) < (n : Int) := by omega
      have e3 : IntKind.i64.wrap ((k : Int) + 1) = (k : Int) + 1 := by rw [IntKind.wrap_i64]; omega
      have hah : ∀ i, ahd nx (List.range (k + 1)) i = ahd nx (List.range k) i + if nx k = (i : Int) then 1 else 0 := fun i => by
        rw [List.range_succ, ahd_append, ahd_cons]
        show _ = _
        congr 1
      by_cases g1 : 0 ≤ x
      · obtain ⟨y, rfl⟩ : ∃ y : Nat, x = (y : Int) := ⟨x.toNat, by omega⟩
        have hy : y < n := by omega
        have hal : ahd nx (List.range k) y ≤ k := by
          unfold ahd
          exact Nat.le_trans (List.length_filter_le _ _) (by simp)
        have g2 := hO.cell hy
        have g3 := hO.free y
        obtain ⟨v, hv⟩ : ∃ v, ahd nx (List.range k) y = v := ⟨_, rfl⟩
        rw [hv] at g2 hal
        have e4 : IntKind.i64.wrap ((v : Int) + 1) = (v : Int) + 1 := by rw [IntKind.wrap_i64]; omega
        have e5 : (0 : Int) ≤ (y : Int) := by omega
        have e6 : (y : Int) < (n : Int) := by omega
        have FO : Hid (OwnI (wr.setCell ⟨G, y, none⟩ (.int .i64 ((v : Int) + 1))) G n (fun i => (ahd nx (List.range (k + 1)) i : Int))) := (hO.set y ((v : Int) + 1)).congr (fun j _ => by
          unfold updI
          rw [hah j, hx]
          by_cases c : j = y
          · rw [if_pos c, c, hv, if_pos rfl]; omega
          · rw [if_neg c, if_neg (by omega)]; rfl)
        have FB := hide (hb.setCell (p := ⟨G, y, none⟩) (unhide HGe) (.int .i64 ((v : Int) + 1)))
        clear hc hO hb hah hx hv
        go_wp2
        exact ⟨⟨k + 1, by go_num, hlt, unhide FO, unhide FB⟩, by simp [intOf]; omega⟩
      · have FO : Hid (OwnI wr G n (fun i => (ahd nx (List.range (k + 1)) i : Int))) := hO.congr (fun j _ => by rw [hah j, hx, if_neg (by omega)]; rfl)
        have FB := hide hb
        clear hc hO hb hah hx
        go_wp2
        exact ⟨⟨k + 1, by go_num, hlt, unhide FO, unhide FB⟩, by simp [intOf]; omega⟩
    · obtain rfl : k = n := by omega
      have e1 : ¬ (k : Int) < (k : Int) := by omega
      have HO := hide hO
      have HB := hide hb
      clear hO hb
      go_wp2
      (try simp only [Exit.inBlock, Exit.then])
      (try go_wp2)
      go_ret
      exact ⟨G, unhide HGe, rfl, unhide HO, unhide HB⟩

/-- A row of ints of the call's own. -/
def OwnL (w : World) (B : Nat) (v : Value) (xs : List Int) : Prop := w.ownsRow B 3 1 v xs.length (xs.map (.int .i64 ·))
theorem OwnL.keep {w w' : World} {B : Nat} {v : Value} {xs : List Int} (h : OwnL w B v xs) (hb : Below w.heap.size w w') : OwnL w' B v xs := by
  refine ⟨h.1, ?_⟩
  rcases h.2 with h | ⟨g, cap, cur, hv, hg, hh, h1⟩
  · exact Or.inl h
  · exact Or.inr ⟨g, cap, cur, hv, hg, by rw [hb.block g (Array.getElem?_eq_some_iff.1 hh).1]; exact hh, h1⟩
theorem OwnL.start (w : World) (B : Nat) : OwnL w B (.slice none 0 0) [] := World.ownsRow_nil _ _ _ _
theorem OwnL.row {w : World} {B : Nat} {v : Value} {xs : List Int} (h : OwnL w B v xs) : ∀ k, v.ownBlock = some k → B ≤ k := by
  intro k hk
  obtain ⟨h1, ⟨rfl, h2⟩ | ⟨g, cap, cur, rfl, hb, _⟩⟩ := h
  · cases hk
  · obtain rfl : g = k := Option.some.inj hk
    exact hb
theorem OwnL.irow {w : World} {B : Nat} {v : Value} {xs : List Int} (h : OwnL w B v xs) : ∃ a c, v = .slice a xs.length c ∧ IRow w a xs.length c (fun j => xs[j]!) := by
  rcases h.2 with ⟨rfl, h0⟩ | ⟨g, cap, cur, rfl, hb, hg, h1, h2, h3, h4⟩
  · exact ⟨none, 0, by rw [h0], ⟨by omega, by decide, fun h => by omega⟩⟩
  · refine ⟨_, cap, rfl, ⟨h1, by unfold maxLen at h2; exact h2, fun _ => ⟨g, 0, rfl, (Array.getElem?_eq_some_iff.1 hg).1, fun j hj => ?_⟩⟩⟩
    have e1 : (xs.map (Value.int .i64 ·))[j]? = cur[j]? := by
      rw [← h4, List.getElem?_take_of_lt (by omega)]
      simp
    simp only [World.cell?, hg, Nat.zero_add]
    rw [← e1]
    simp [hj]
theorem news_int (w : World) (x : Int) (T : TypeId) : ∀ j u, [Value.int .i64 x][j]? = some u → (w.alloc (.cells #[.int .i64 x] T)).cell? ((⟨w.heap.size, 0, none⟩ : Addr).add j) = some u :=
  World.news_of_block (cs := #[.int .i64 x]) (t := T) (fr := (0, 0)) (heap_alloc_new w _)
theorem one_int (x : Int) : ∀ u ∈ [Value.int .i64 x], u.oneCell' = true := by
  intro u hu
  simp only [List.mem_cons, List.not_mem_nil, or_false] at hu
  rw [hu]; rfl
/-- A row with one more. -/
theorem OwnL.push {w' : World} {B g cap : Nat} {xs : List Int} {x : Int} (own : w'.ownsRow B 3 1 (.slice (some ⟨g, 0, none⟩) (xs.length + 1) cap) (xs.length + 1) (xs.map (Value.int .i64 ·) ++ [.int .i64 x])) : OwnL w' B (.slice (some ⟨g, 0, none⟩) (xs.length + 1) cap) (xs ++ [x]) := by
  unfold OwnL
  rw [List.map_append, List.length_append]
  exact own
theorem OwnL.grow {w wr w' : World} {B : Nat} {v : Value} {xs : List Int} (h : OwnL wr B v xs) (hb : Below w.heap.size w wr) (hB : w.heap.size ≤ B) {W : World} (hW : Below wr.heap.size wr W) (hg : W.grownBy w' v.ownBlock) : Below w.heap.size w w' :=
  Below.grown (below_step hb hW) hg (Nat.le_trans hb.size hW.size) (fun k hk => Nat.le_trans hB (h.row k hk))
theorem OwnL.cell {w : World} {B : Nat} {g n c : Nat} {xs : List Int} (h : OwnL w B (.slice (some ⟨g, 0, none⟩) n c) xs) {j : Nat} (hj : j < xs.length) : w.cell? ⟨g, j, none⟩ = some (.int .i64 xs[j]!) ∧ w.frozen? ⟨g, j, none⟩ = false := by
  rcases h.2 with ⟨h0, _⟩ | ⟨g', cap, cur, hv, hb, hg, h1, h2, h3, h4⟩
  · cases h0
  · injection hv with e1 e2 e3
    injection e1 with e1
    injection e1 with e1
    subst e1
    have e1 : (xs.map (Value.int .i64 ·))[j]? = cur[j]? := by
      rw [← h4, List.getElem?_take_of_lt (by omega)]
      simp
    refine ⟨?_, by simp [World.frozen?, hg]⟩
    simp only [World.cell?, hg]
    rw [← e1]
    simp [hj]
theorem OwnL.len {w : World} {B : Nat} {a : Option Addr} {n c : Nat} {xs : List Int} (h : OwnL w B (.slice a n c) xs) : n = xs.length := by
  rcases h.2 with ⟨h0, h1⟩ | ⟨g', cap, cur, hv, _⟩
  · injection h0 with e1 e2 e3; omega
  · injection hv with e1 e2 e3
def OwnN (w : World) (B : Nat) (v : Value) (xs : List Nat) : Prop := OwnL w B v (xs.map (fun x => ((x : Nat) : Int)))
/-- Two rows of the call's own, apart. -/
structure Two (w0 w : World) (vr vo : Value) (on out : List Nat) : Prop where
  r : OwnN w w0.heap.size vr on
  o : OwnN w w0.heap.size vo out
  ne : ∀ k, vr.ownBlock = some k → vo.ownBlock ≠ some k
  bl : Below w0.heap.size w0 w
theorem Two.start (w0 : World) : Two w0 w0 (.slice none 0 0) (.slice none 0 0) [] [] := ⟨OwnL.start _ _, OwnL.start _ _, (fun k hk => by cases hk), Below.refl _ _⟩
theorem Two.keep {w0 w w' : World} {vr vo : Value} {on out : List Nat} (h : Two w0 w vr vo on out) (hb : Below w.heap.size w w') : Two w0 w' vr vo on out := ⟨OwnL.keep h.r hb, OwnL.keep h.o hb, h.ne, below_step h.bl hb⟩
theorem Two.sym {w0 w : World} {vr vo : Value} {on out : List Nat} (h : Two w0 w vr vo on out) : Two w0 w vo vr out on := ⟨h.o, h.r, fun k h1 h2 => h.ne k h2 h1, h.bl⟩
theorem Two.push {w0 wr w5 : World} {vr vo : Value} {on out : List Nat} {x g5 cap5 : Nat} (h : Two w0 wr vr vo on out)
    (own5 : w5.ownsRow w0.heap.size 3 1 (.slice (some ⟨g5, 0, none⟩) ((on.map (fun x => ((x : Nat) : Int))).length + 1) cap5) ((on.map (fun x => ((x : Nat) : Int))).length + 1) ((on.map (fun x => ((x : Nat) : Int))).map (Value.int .i64 ·) ++ [.int .i64 ((x : Nat) : Int)]))
    (grow5 : (wr.alloc (.cells #[.int .i64 ((x : Nat) : Int)] 3)).grownBy w5 vr.ownBlock) (hat5 : vr.ownBlock = some g5 ∨ g5 = wr.heap.size + 1) : Two w0 w5 (.slice (some ⟨g5, 0, none⟩) (on.length + 1) cap5) vo (on ++ [x]) out := by
  have hb := alloc_below wr (.cells #[.int .i64 ((x : Nat) : Int)] 3)
  have ho := (OwnL.keep h.o hb)
  have hb2 := below_step h.bl hb
  refine ⟨?_, World.ownsRow.kept ho grow5 ?_, fun k hk hk2 => ?_, Below.grown hb2 grow5 hb2.size (fun k hk => OwnL.row h.r k hk)⟩
  · unfold OwnN
    rw [List.map_append]
    have := OwnL.push own5
    rw [List.length_map] at this
    exact this
  · cases c : vo.ownBlock with
    | none => exact Or.inl rfl
    | some j => exact Or.inr (fun e => h.ne j e.symm c)
  · have hk' : g5 = k := Option.some.inj hk
    subst hk'
    rcases hat5 with e | e
    · exact h.ne g5 e hk2
    · have := (World.ownsRow.lt h.o g5 hk2).2
      omega
theorem getN (xs : List Nat) {j : Nat} (hj : j < xs.length) : (xs.map (fun x => ((x : Nat) : Int)))[j]! = ((xs[j]! : Nat) : Int) := by simp [hj]
/-- One number appended to a row. -/
theorem news_one (w : World) (x : Nat) (T : TypeId) : ∀ j u, [Value.int .i64 ((x : Nat) : Int)][j]? = some u → (w.alloc (.cells #[.int .i64 ((x : Nat) : Int)] T)).cell? ((⟨w.heap.size, 0, none⟩ : Addr).add j) = some u := news_int w _ T
/-- What parted leaves. -/
def PtPost (w : World) (p : Nat → Bool) (m : Nat) (Q : List Nat) (e : Ending) (w' : World) : Prop := ∃ vc vr, e = .returned (.tuple #[vc, vr]) ∧ Two w w' vc vr (pt p m Q).1 (pt p m Q).2
theorem take_snoc (Q : List Nat) {k i : Nat} (h : Q[k]? = some i) : Q.take (k + 1) = Q.take k ++ [i] := by rw [List.take_add_one, h]; rfl
theorem pt_len (p : Nat → Bool) (m : Nat) (Q : List Nat) : (pt p m Q).1.length + (pt p m Q).2.length = Q.length := by
  have := (pt_is p m Q).perm.length_eq
  rw [List.length_append] at this
  exact this

set_option maxHeartbeats 8000000 in
set_option maxRecDepth 100000 in
set_option linter.unusedSimpArgs false in
theorem parted_any (qa : Option Addr) (qc : Nat) (Q : List Nat) (aa : Option Addr) (n ac : Nat) (av : Nat → Int) (m : Nat) (w : World) (hq : IRow w qa Q.length qc (fun j => ((Q[j]! : Nat) : Int))) (ha : IRow w aa n ac av) (hQ : ∀ i ∈ Q, i < n) (hl : Q.length ≤ 60) (hm : m ≤ 20) :
    Calls Tryd.prog 49 #[.slice qa Q.length qc, .slice aa n ac, .int .i64 (m : Int)] w (PtPost w (fun i => av i == 0) m Q) := by
  obtain ⟨ti, hi, hz0, hz1, hz2⟩ := info_parts Tryd.infoI
  have HI := hide hi
  have HZ := hide hz0
  have HQR := hide hq
  have HAR := hide ha
  have HQM := hide hQ
  have HT0 := hide (Two.start w)
  obtain ⟨ql, hql⟩ : ∃ l, Q.length = l := ⟨_, rfl⟩
  rw [hql] at HQR hl
  rw [hql]
  have HQL := hide hql
  clear hi hz0 hq ha hQ hql
  go_enter Tryd.func49, Tryd.ntmps49
  go_wp2_with fail
  go_loopw [6, 7, 12] (fun vc vr vi wr => ∃ k : Nat, vi = .int .i64 (k : Int) ∧ k ≤ ql ∧ Two w wr vc vr (pt (fun i => av i == 0) m (Q.take k)).1 (pt (fun i => av i == 0) m (Q.take k)).2) (fun _ _ vi _ => ql - (intOf vi).toNat)
  case atStart => exact ⟨0, rfl, Nat.zero_le _, by rw [List.take_zero]; exact unhide HT0⟩
  case round =>
    obtain ⟨k, rfl, hk, hTw⟩ := hrel
    by_cases hlt : k < ql
    · obtain ⟨b, o, rfl, hbl, hc⟩ := ((unhide HQR).below hTw.bl).2.2 (by omega)
      have hkQ : k < Q.length := by rw [unhide HQL]; exact hlt
      obtain ⟨i, hi⟩ : ∃ i, Q[k]? = some i := ⟨Q[k], by simp [hkQ]⟩
      have c0 := hc k hlt
      have hi2 : Q[k]! = i := by simp [hi]
      simp only [hi2] at c0
      have hin : i < n := unhide HQM i (List.mem_of_getElem? hi)
      obtain ⟨b', o', rfl, hbl', hca⟩ := ((unhide HAR).below hTw.bl).2.2 (by omega)
      have c1 := hca i hin
      have HPT : Hid (pt (fun i => av i == 0) m (Q.take (k + 1)) = ps (fun i => av i == 0) m (pt (fun i => av i == 0) m (Q.take k)) i) := by show _ = _; rw [take_snoc Q hi, pt_snoc]
      have hpl := pt_len (fun i => av i == 0) m (Q.take k)
      have htl : (Q.take k).length ≤ k := by rw [List.length_take]; omega
      obtain ⟨⟨C, R⟩, hCR⟩ : ∃ s, pt (fun i => av i == 0) m (Q.take k) = s := ⟨_, rfl⟩
      rw [hCR] at hTw HPT hpl
      simp only at hTw hpl
      have hn63 : ∀ j, j < n → (j : Int) < (n : Int) := fun j hj => by omega
      obtain ⟨x, hx⟩ : ∃ x, av i = x := ⟨_, rfl⟩
      rw [hx] at c1
      have e1 : (0 : Int) ≤ (k : Int) := by omega
      have e2 : (k : Int) < (ql : Int) := by omega
      have e3 : (0 : Int) ≤ (i : Int) := by omega
      have e4 : (i : Int) < (n : Int) := by omega
      have e5 : IntKind.i64.wrap ((k : Int) + 1) = (k : Int) + 1 := by rw [IntKind.wrap_i64]; omega
      obtain ⟨ca, cc, hvc, hirC⟩ := hTw.r.irow
      rw [List.length_map] at hvc
      have hbC := hirC.1
      have hbR : True := trivial
      clear hirC
      by_cases g1 : x = 0
      · have e6 : (x == 0) = true := by simp [g1]
        by_cases g2 : C.length < m
        · have e7 : (C.length : Int) < (m : Int) := by omega
          have HPS : Hid (pt (fun i => av i == 0) m (Q.take (k + 1)) = (C ++ [i], R)) := by
            show _ = _
            rw [unhide HPT]
            unfold ps
            rw [if_pos ⟨by simp [hx, g1], g2⟩]
          subst hvc
          clear hi hi2 hCR hpl htl hn63 hx g1
          have O4 := hide (OwnL.keep hTw.r (alloc_below wr (.cells #[.int .i64 ((i : Nat) : Int)] 3)))
          have Q63 : Hid ((C.map (fun x => ((x : Nat) : Int))).length + 1 ≤ maxLen) := by show _ ≤ _; rw [List.length_map]; unfold maxLen; omega
          have Q8 : Hid (((C.map (fun x => ((x : Nat) : Int))).length + 1) * 8 ≤ 140737488355328) := by show _ ≤ _; rw [List.length_map]; omega
          have QB := hide (below_step hTw.bl (alloc_below wr (.cells #[.int .i64 ((i : Nat) : Int)] 3))).size
          have HTW := hide hTw
          clear hTw hc hca hbC hbR
          go_wp2_with (at_builtin; go_loud (refine wpList_append_lies _ rfl _ _ _ rfl w.heap.size 3 ti (.int .i64 0) 1 8 Tryd.underlying23 (unhide HI) (unhide HZ) hz1 hz2 rfl (by decide) _ (C.map (fun x => ((x : Nat) : Int))).length ((C.map (fun x => ((x : Nat) : Int))).map (Value.int .i64 ·)) rfl (unhide O4) ⟨wr.heap.size, 0, none⟩ 1 1 [.int .i64 ((i : Nat) : Int)] rfl rfl (news_one wr i _) (one_int _) (by decide) (unhide Q63) (unhide Q8) (unhide QB) (wr.heap.size + 1) (alloc_size _ _) ?_; intro g5 cap5 w5 own5 grow5 hat5 hlt5; have PTW := hide ((unhide HTW).push own5 grow5 hat5); clear own5 grow5 hat5 hlt5))
          (try simp only [List.length_map])
          refine ⟨⟨k + 1, by go_num, hlt, ?_⟩, by simp [intOf]; omega⟩
          rw [unhide HPS]
          exact unhide PTW
        · have e7 : ¬ (C.length : Int) < (m : Int) := by omega
          have HPS : Hid (pt (fun i => av i == 0) m (Q.take (k + 1)) = (C, R ++ [i])) := by
            show _ = _
            rw [unhide HPT]
            unfold ps
            rw [if_neg (fun h => g2 h.2)]
          subst hvc
          clear hi hi2 hCR hn63 hx g1
          have O4 := hide (OwnL.keep hTw.o (alloc_below wr (.cells #[.int .i64 ((i : Nat) : Int)] 3)))
          have Q63 : Hid ((R.map (fun x => ((x : Nat) : Int))).length + 1 ≤ maxLen) := by show _ ≤ _; rw [List.length_map]; unfold maxLen; omega
          have Q8 : Hid (((R.map (fun x => ((x : Nat) : Int))).length + 1) * 8 ≤ 140737488355328) := by show _ ≤ _; rw [List.length_map]; omega
          have QB := hide (below_step hTw.bl (alloc_below wr (.cells #[.int .i64 ((i : Nat) : Int)] 3))).size
          have HTW := hide hTw
          clear hTw hc hca hbC hbR
          go_wp2_with (at_builtin; go_loud (refine wpList_append_lies _ rfl _ _ _ rfl w.heap.size 3 ti (.int .i64 0) 1 8 Tryd.underlying23 (unhide HI) (unhide HZ) hz1 hz2 rfl (by decide) _ (R.map (fun x => ((x : Nat) : Int))).length ((R.map (fun x => ((x : Nat) : Int))).map (Value.int .i64 ·)) rfl (unhide O4) ⟨wr.heap.size, 0, none⟩ 1 1 [.int .i64 ((i : Nat) : Int)] rfl rfl (news_one wr i _) (one_int _) (by decide) (unhide Q63) (unhide Q8) (unhide QB) (wr.heap.size + 1) (alloc_size _ _) ?_; intro g5 cap5 w5 own5 grow5 hat5 hlt5; have PTW := hide ((unhide HTW).sym.push own5 grow5 hat5); clear own5 grow5 hat5 hlt5))
          (try simp only [List.length_map])
          refine ⟨⟨k + 1, by go_num, hlt, ?_⟩, by simp [intOf]; omega⟩
          rw [unhide HPS]
          exact (unhide PTW).sym
      · have e6 : (x == 0) = false := by rw [beq_eq_false_iff_ne]; exact g1
        have HPS : Hid (pt (fun i => av i == 0) m (Q.take (k + 1)) = (C, R ++ [i])) := by
          show _ = _
          rw [unhide HPT]
          unfold ps
          rw [if_neg (fun h => g1 (by have := h.1; simpa [hx] using this))]
        clear hi hi2 hCR hn63 hx g1 hvc
        have O4 := hide (OwnL.keep hTw.o (alloc_below wr (.cells #[.int .i64 ((i : Nat) : Int)] 3)))
        have Q63 : Hid ((R.map (fun x => ((x : Nat) : Int))).length + 1 ≤ maxLen) := by show _ ≤ _; rw [List.length_map]; unfold maxLen; omega
        have Q8 : Hid (((R.map (fun x => ((x : Nat) : Int))).length + 1) * 8 ≤ 140737488355328) := by show _ ≤ _; rw [List.length_map]; omega
        have QB := hide (below_step hTw.bl (alloc_below wr (.cells #[.int .i64 ((i : Nat) : Int)] 3))).size
        have HTW := hide hTw
        clear hTw hc hca hbC hbR
        go_wp2_with (at_builtin; go_loud (refine wpList_append_lies _ rfl _ _ _ rfl w.heap.size 3 ti (.int .i64 0) 1 8 Tryd.underlying23 (unhide HI) (unhide HZ) hz1 hz2 rfl (by decide) _ (R.map (fun x => ((x : Nat) : Int))).length ((R.map (fun x => ((x : Nat) : Int))).map (Value.int .i64 ·)) rfl (unhide O4) ⟨wr.heap.size, 0, none⟩ 1 1 [.int .i64 ((i : Nat) : Int)] rfl rfl (news_one wr i _) (one_int _) (by decide) (unhide Q63) (unhide Q8) (unhide QB) (wr.heap.size + 1) (alloc_size _ _) ?_; intro g5 cap5 w5 own5 grow5 hat5 hlt5; have PTW := hide ((unhide HTW).sym.push own5 grow5 hat5); clear own5 grow5 hat5 hlt5))
        (try simp only [List.length_map])
        refine ⟨⟨k + 1, by go_num, hlt, ?_⟩, by simp [intOf]; omega⟩
        rw [unhide HPS]
        exact (unhide PTW).sym
    · obtain rfl : k = ql := by omega
      have e1 : ¬ (k : Int) < (k : Int) := by omega
      rw [List.take_of_length_le (by rw [unhide HQL]; exact Nat.le_refl _)] at hTw
      have HTW := hide hTw
      clear hTw
      go_wp2
      (try simp only [Exit.inBlock, Exit.then])
      (try go_wp2)
      go_ret2
      exact ⟨_, _, rfl, unhide HTW⟩
end Go.Proofs.YtepgdlgifempeaaDoor
