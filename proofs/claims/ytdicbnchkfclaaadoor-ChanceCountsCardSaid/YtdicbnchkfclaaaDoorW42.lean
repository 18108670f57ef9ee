/- Several steps of Euclid's done at once, in the memory of both numbers. -/
import Derived.Test.YtdicbnchkfclaaaDoorW41
namespace Go.Proofs.YtdicbnchkfclaaaDoor
open Go.RowKit Go.Sort Go.Shelf

/-- Two numbers in rows of the call's own, apart from each other. -/
structure TwoAt (base : Nat) (w : World) (ga gb ma mb ca cb : Nat) (da db : Array Int) (A B : Int) : Prop where
  ne : ga ≠ gb
  ba : base ≤ ga
  bb : base ≤ gb
  oa : HeadRow w ga da
  ob : HeadRow w gb db
  sa : ma ≤ da.size
  sb : mb ≤ db.size
  sca : da.size ≤ ca
  scb : db.size ≤ cb
  ka : ca ≤ 9223372036854775807
  kb : cb ≤ 9223372036854775807
  wa : ∀ j, j < da.size → Wd.W64 da[j]!
  wb : ∀ j, j < db.size → Wd.W64 db[j]!
  la : Wd.Len A ma
  lb : Wd.Len B mb
  va : Wd.vl (fun j => da[j]!) ma = A
  vb : Wd.vl (fun j => db[j]!) mb = B

def OwnTwo (base : Nat) (w : World) (va vb : Value) (A B : Int) : Prop := ∃ (ga gb ma mb ca cb : Nat) (da db : Array Int), va = .slice (some ⟨ga, 0, none⟩) ma ca ∧ vb = .slice (some ⟨gb, 0, none⟩) mb cb ∧ TwoAt base w ga gb ma mb ca cb da db A B

theorem DoneAt.start {base : Nat} {w W : World} {gx gy g1 g2 : Nat} {dx dy : Array Int} {p q r s : Int} (ox : HeadRow W gx dx) (oy : HeadRow W gy dy) (wx : ∀ j, j < dx.size → Wd.W64 dx[j]!) (wy : ∀ j, j < dy.size → Wd.W64 dy[j]!)
    (m1 : MixIs W g1 p q 0 0 0) (m2 : MixIs W g2 r s 0 0 0) (bl : Below base w W) : DoneAt base W.heap.size w W gx gy g1 g2 0 dx dy p q r s dx dy 0 0 0 0 0 0 :=
  ⟨ox, oy, rfl, rfl, wx, wy, fun _ _ => rfl, fun _ _ => rfl, m1, m2, ⟨⟨by decide, by decide⟩, ⟨by decide, by decide⟩, by decide, by decide⟩, ⟨⟨by decide, by decide⟩, ⟨by decide, by decide⟩, by decide, by decide⟩, by simp [Wd.vl], by simp [Wd.vl], bl, rfl⟩

/-- The end: both rows hold what was meant. -/
theorem DoneAt.fin {base hs : Nat} {w0 wr : World} {gx gy g1 g2 n mx my : Nat} {dx dy : Array Int} {p q r s X Y A' B' : Int} {ex ey : Array Int} {ca1 ch1 bo1 ca2 ch2 bo2 : Int}
    (h : DoneAt base hs w0 wr gx gy g1 g2 n dx dy p q r s ex ey ca1 ch1 bo1 ca2 ch2 bo2) (hnx : n ≤ dx.size) (hny : n ≤ dy.size) (hmx : n ≤ mx) (hmy : n ≤ my) (hX : Wd.vl (fun j => dx[j]!) mx = X) (hY : Wd.vl (fun j => dy[j]!) my = Y)
    (hA : A' = p * X - q * Y) (hB : B' = r * Y - s * X) (a0 : 0 ≤ A') (a1 : A' < Wd.pw n) (b0 : 0 ≤ B') (b1 : B' < Wd.pw n) : Wd.vl (fun j => ex[j]!) n = A' ∧ Wd.vl (fun j => ey[j]!) n = B' := by
  obtain ⟨kx, ex'⟩ := vl_upper dx n mx hmx
  obtain ⟨ky, ey'⟩ := vl_upper dy n my hmy
  have bx := Wd.vl_bd (f := fun j => ex[j]!) (n := n) (fun j hj => h.wx j (by omega))
  have bY := Wd.vl_bd (f := fun j => ey[j]!) (n := n) (fun j hj => h.wy j (by omega))
  rw [← hX, ← hY, ex', ey'] at hA hB
  exact ⟨mix_fin h.vx bx.1 bx.2 hA a0 a1, mix_fin h.vy bY.1 bY.2 hB b0 b1⟩

theorem TwoAt.of_done {base hs : Nat} {w0 wr : World} {gx gy g1 g2 n m1 m2 cx cy : Nat} {dx dy : Array Int} {p q r s A' B' : Int} {ex ey : Array Int} {ca1 ch1 bo1 ca2 ch2 bo2 : Int}
    (h : DoneAt base hs w0 wr gx gy g1 g2 n dx dy p q r s ex ey ca1 ch1 bo1 ca2 ch2 bo2) (hne : gx ≠ gy) (hbx : base ≤ gx) (hby : base ≤ gy) (hnx : n ≤ dx.size) (hny : n ≤ dy.size) (kx : dx.size ≤ cx) (ky : dy.size ≤ cy) (kx' : cx ≤ 9223372036854775807) (ky' : cy ≤ 9223372036854775807)
    (hA : Wd.vl (fun j => ex[j]!) n = A') (hB : Wd.vl (fun j => ey[j]!) n = B') (hm1 : m1 ≤ n) (hm2 : m2 ≤ n) (l1 : Wd.Len A' m1) (l2 : Wd.Len B' m2) : OwnTwo base wr (.slice (some ⟨gx, 0, none⟩) m1 cx) (.slice (some ⟨gy, 0, none⟩) m2 cy) A' B' := by
  have e1 : Wd.vl (fun j => ex[j]!) m1 = A' := by
    have e : Wd.vl (fun j => ex[j]!) m1 = Wd.vl (Wd.dig (Wd.vl (fun j => ex[j]!) n)) m1 := Wd.vl_congr (fun j hj => by rw [Wd.dig_vl (fun j hj => h.wx j (by omega)) (by omega)])
    rw [e, hA]; exact Wd.vl_dig_all l1.1 l1.2.1
  have e2 : Wd.vl (fun j => ey[j]!) m2 = B' := by
    have e : Wd.vl (fun j => ey[j]!) m2 = Wd.vl (Wd.dig (Wd.vl (fun j => ey[j]!) n)) m2 := Wd.vl_congr (fun j hj => by rw [Wd.dig_vl (fun j hj => h.wy j (by omega)) (by omega)])
    rw [e, hB]; exact Wd.vl_dig_all l2.1 l2.2.1
  refine ⟨gx, gy, m1, m2, cx, cy, ex, ey, rfl, rfl, hne, hbx, hby, h.ox, h.oy, by rw [h.sx]; omega, by rw [h.sy]; omega, by rw [h.sx]; exact kx, by rw [h.sy]; exact ky, kx', ky', by rw [h.sx]; exact h.wx, by rw [h.sy]; exact h.wy, l1, l2, e1, e2⟩

theorem alloc_heap (w : World) (o : Obj) : (w.alloc o).heap = w.heap.push o := rfl

theorem row_less {w : World} {a : Option Addr} {n c m : Nat} {f : Nat → Int} (h : RowIs w a n c f) (hm : m ≤ n) : RowIs w a m c f := by
  obtain ⟨h1, h2, h3⟩ := h
  refine ⟨by omega, h2, fun hp => ?_⟩
  obtain ⟨b, o, e, hlt, hc⟩ := h3 (by omega)
  exact ⟨b, o, e, hlt, fun j hj => hc j (by omega)⟩

/-- The three blocks that are made ahead of the loop. -/
theorem made_three (w : World) (b : Obj) (p q r s : Int) {W : World} (hW : ((w.alloc b).alloc (.cells #[.int .u64 p, .int .u64 q, .int .u64 0, .int .u64 0, .int .u64 0] 135)).alloc (.cells #[.int .u64 r, .int .u64 s, .int .u64 0, .int .u64 0, .int .u64 0] 135) = W) :
    MixIs W (w.heap.size + 1) p q 0 0 0 ∧ MixIs W (w.heap.size + 1 + 1) r s 0 0 0 ∧ Below w.heap.size w W ∧ W.heap.size = w.heap.size + 3 := by
  subst hW
  refine ⟨?_, ?_, ?_, ?_⟩
  · unfold MixIs; rw [alloc_heap, alloc_heap, alloc_heap, Array.getElem?_push, if_neg (by simp), Array.getElem?_push, if_pos (by simp)]
  · unfold MixIs; rw [alloc_heap, alloc_heap, alloc_heap, Array.getElem?_push, if_pos (by simp)]
  · refine (((Below.refl w.heap.size w).alloc (Nat.le_refl _) _).alloc ?_ _).alloc ?_ _
    · rw [alloc_heap, Array.size_push]; omega
    · rw [alloc_heap, alloc_heap, Array.size_push, Array.size_push]; omega
  · rw [alloc_heap, alloc_heap, alloc_heap, Array.size_push, Array.size_push, Array.size_push]

set_option maxHeartbeats 8000000 in
set_option maxRecDepth 100000 in
theorem done_any (sw : Bool) (p q r s : Int) (va vb : Value) (A B A' B' : Int) (base : Nat) (w : World) (hbase : base ≤ w.heap.size) (h : OwnTwo base w va vb A B) (hle : B ≤ A) (hp : Wd.W64 p) (hq : Wd.W64 q) (hr : Wd.W64 r) (hs : Wd.W64 s)
    (e0 : sw = false → A' = p * A - q * B ∧ B' = r * B - s * A) (e1 : sw = true → A' = p * B - q * A ∧ B' = r * A - s * B) (l0 : 0 ≤ B') (l1 : B' < A') (l2 : A' ≤ B) :
    Calls Tryd.prog 88 #[stV sw p q r s, va, vb] w fun e w' => ∃ v1 v2, e = .returned (.tuple #[v1, v2]) ∧ OwnTwo base w' v1 v2 A' B' ∧ Below base w w' ∧ base ≤ w'.heap.size := by
  obtain ⟨ga, gb, ma, mb, ca, cb, da, db, rfl, rfl, T⟩ := h
  have hmm : mb ≤ ma := by
    rcases Nat.lt_or_ge ma mb with h | h
    · have := Wd.Len.lt T.la T.lb h; omega
    · exact h
  have hga := T.oa.lt
  have hgb := T.ob.lt
  have sa := T.sa
  have sb := T.sb
  have ka := T.ka
  have kb := T.kb
  have sca := T.sca
  have scb := T.scb
  have hBp := T.lb.2.1
  have HT := hide T
  have HE0 := hide e0
  have HE1 := hide e1
  have HL := hide (show 0 ≤ A' ∧ A' < Wd.pw mb ∧ 0 ≤ B' ∧ B' < Wd.pw mb from ⟨by omega, by omega, by omega, by omega⟩)
  have HP := hide hp
  have HQ := hide hq
  have HR := hide hr
  have HS := hide hs
  have cmbda : mb ≤ ca := by omega
  clear T e0 e1 l0 l1 l2 hBp hp hq hr hs hle
  unfold stV
  cases sw
  · skip
    obtain ⟨W, hW⟩ : ∃ W, ((w.alloc (.cells #[.int .u64 p, .int .u64 q, .int .u64 r, .int .u64 s, .bool false] 119)).alloc (.cells #[.int .u64 p, .int .u64 q, .int .u64 0, .int .u64 0, .int .u64 0] 135)).alloc (.cells #[.int .u64 r, .int .u64 s, .int .u64 0, .int .u64 0, .int .u64 0] 135) = W := ⟨_, rfl⟩
    obtain ⟨mm1, mm2, bW, sW⟩ := made_three w _ p q r s hW
    have D0 := DoneAt.start (gx := ga) (gy := gb) (dx := da) (dy := db) (base := base) ((unhide HT).oa.below bW hga) ((unhide HT).ob.below bW hgb) (unhide HT).wa (unhide HT).wb mm1 mm2 (bW.mono hbase)
    have HD0 := hide D0
    have HWE := hide hW
    have HSW := hide sW
    clear D0 mm1 mm2 bW sW hW
    go_enter Tryd.func88, Tryd.ntmps88
    go_wp2_with fail
    rw [unhide HWE]
    go_loopw [31] (fun vi wr => ∃ (i : Nat) (ex ey : Array Int) (ca1 ch1 bo1 ca2 ch2 bo2 : Int), vi = .int .i64 i ∧ i ≤ mb ∧ DoneAt base W.heap.size w wr ga gb (w.heap.size + 1) (w.heap.size + 1 + 1) i da db p q r s ex ey ca1 ch1 bo1 ca2 ch2 bo2) (fun vi _ => mb - (intOf vi).toNat)
    case atStart => exact ⟨0, _, _, _, _, _, _, _, _, rfl, Nat.zero_le _, unhide HD0⟩
    case round =>
      obtain ⟨i, ex, ey, ca1, ch1, bo1, ca2, ch2, bo2, rfl, hi, D⟩ := hrel
      have HD := hide D
      by_cases hlt : i < mb
      · obtain ⟨x, hx⟩ : ∃ x, da[i]! = x := ⟨_, rfl⟩
        obtain ⟨y, hy⟩ : ∃ y, db[i]! = y := ⟨_, rfl⟩
        have wxi := D.wx i (by omega)
        have wyi := D.wy i (by omega)
        have hcx := (D.ox.holds i (by rw [D.sx]; omega)).1
        have hcy := (D.oy.holds i (by rw [D.sy]; omega)).1
        rw [D.rx i (Nat.le_refl _), hx] at hcx wxi
        rw [D.ry i (Nat.le_refl _), hy] at hcy wyi
        rw [Nat.zero_add] at hcx hcy
        have HN1 := hide (fun (w' : World) (hm : MixIs w' (w.heap.size + 1) p q ca1 ch1 bo1) => next_any (w.heap.size + 1) p q ca1 ch1 bo1 x y w' hm (unhide HP) (unhide HQ) D.b1.1 D.b1.2.1 D.b1.2.2.1 D.b1.2.2.2 wxi wyi)
        have HN2 := hide (fun (w' : World) (hm : MixIs w' (w.heap.size + 1 + 1) r s ca2 ch2 bo2) => next_any (w.heap.size + 1 + 1) r s ca2 ch2 bo2 y x w' hm (unhide HR) (unhide HS) D.b2.1 D.b2.2.1 D.b2.2.2.1 D.b2.2.2.2 wyi wxi)
        have hne := (unhide HT).ne
        have STEP := hide (fun (w1 w2 : World) M1 A1 M2 A2 => D.step (w1 := w1) (w2 := w2) (unhide HP) (unhide HQ) (unhide HR) (unhide HS) (by omega) (by omega) (by omega) (by omega) (by omega) (by omega) (by omega) (by omega) (by have := (unhide HT).ba; have := (unhide HT).bb; omega) (by have := (unhide HT).ba; have := (unhide HT).bb; omega) (by omega) (by omega) M1 A1 M2 A2)
        rw [hx, hy] at STEP
        have hi0 : (0 : Int) ≤ (i : Int) := by omega
        have hi1 : (i : Int) < (mb : Int) := by omega
        have hit : ((i : Int)).toNat = i := by omega
        have hm1 := D.m1
        have hm2 := D.m2
        have HX := hide hx
        have HY := hide hy
        have HM1 := hide hm1
        have HM2 := hide hm2
        clear D hm1 hm2 hx hy wxi wyi
        obtain ⟨V1, hV1⟩ : ∃ v, ((p * x + ca1) % 18446744073709551616 - (q * y + ch1) % 18446744073709551616 - bo1) % 18446744073709551616 = v := ⟨_, rfl⟩
        obtain ⟨V2, hV2⟩ : ∃ v, ((r * y + ca2) % 18446744073709551616 - (s * x + ch2) % 18446744073709551616 - bo2) % 18446744073709551616 = v := ⟨_, rfl⟩
        rw [hV1] at HN1 STEP
        rw [hV2] at HN2 STEP
        clear hV1 hV2
        go_wp2_with fail
        refine wp_region_till (fun w' => w'.cell? ⟨ga, i, none⟩ = some (.int .u64 x) ∧ w'.cell? ⟨gb, i, none⟩ = some (.int .u64 y)) 23 (by kernel_rfl) ?_
        have hC0 : (fun w' : World => w'.cell? ⟨ga, i, none⟩ = some (.int .u64 x) ∧ w'.cell? ⟨gb, i, none⟩ = some (.int .u64 y)) wr.drew := ⟨hcx, hcy⟩
        refine wpTill_pure (i := 0) (v := ?_) rfl (by kernel_rfl) (by kernel_rfl) (by kernel_rfl) (by kernel_rfl) (fun _ _ _ h => h) (Or.inl ⟨by rfl, ?_⟩) (fun _ => hC0) ?_
        rotate_left
        · intro w hSw; clear hSw; go_simp; (try with_reducible rfl)
        (try simp only [List.getElem_toArray, List.getElem_cons_zero])
        (try simp only [Act.put, List.setIfInBounds_toArray, List.set_cons_zero, List.set_cons_succ])
        refine wpTill_pure (i := 1) (v := ?_) rfl (by kernel_rfl) (by kernel_rfl) (by kernel_rfl) (by kernel_rfl) (fun _ _ _ h => h) (Or.inl ⟨by rfl, ?_⟩) (fun _ => hC0) ?_
        rotate_left
        · intro w hSw; clear hSw; go_simp; (try with_reducible rfl)
        (try simp only [List.getElem_toArray, List.getElem_cons_succ, List.getElem_cons_zero])
        (try simp only [Act.put, List.setIfInBounds_toArray, List.set_cons_zero, List.set_cons_succ])
        refine wpTill_pure (i := 2) (v := ?_) rfl (by kernel_rfl) (by kernel_rfl) (by kernel_rfl) (by kernel_rfl) (fun _ _ _ h => h) (Or.inl ⟨by rfl, ?_⟩) (fun _ => hC0) ?_
        rotate_left
        · intro w hSw; clear hSw; go_simp; (try with_reducible rfl)
        (try simp only [List.getElem_toArray, List.getElem_cons_succ, List.getElem_cons_zero])
        (try simp only [Act.put, List.setIfInBounds_toArray, List.set_cons_zero, List.set_cons_succ])
        refine wpTill_pure (i := 3) (v := ?_) rfl (by kernel_rfl) (by kernel_rfl) (by kernel_rfl) (by kernel_rfl) (fun _ _ _ h => h) (Or.inl ⟨by rfl, ?_⟩) (fun _ => hC0) ?_
        rotate_left
        · intro w hSw; clear hSw; go_simp; (try with_reducible rfl)
        (try simp only [List.getElem_toArray, List.getElem_cons_succ, List.getElem_cons_zero])
        (try simp only [Act.put, List.setIfInBounds_toArray, List.set_cons_zero, List.set_cons_succ])
        refine wpTill_pure (i := 4) (v := ?_) rfl (by kernel_rfl) (by kernel_rfl) (by kernel_rfl) (by kernel_rfl) (fun _ _ _ h => h) (Or.inl ⟨by rfl, ?_⟩) (fun _ => hC0) ?_
        rotate_left
        · intro w hSw; clear hSw; go_simp; (try with_reducible rfl)
        (try simp only [List.getElem_toArray, List.getElem_cons_succ, List.getElem_cons_zero])
        (try simp only [Act.put, List.setIfInBounds_toArray, List.set_cons_zero, List.set_cons_succ])
        refine wpTill_pure (i := 5) (v := ?_) rfl (by kernel_rfl) (by kernel_rfl) (by kernel_rfl) (by kernel_rfl) (fun _ _ _ h => h) (Or.inl ⟨by rfl, ?_⟩) (fun _ => hC0) ?_
        rotate_left
        · intro w hSw; clear hSw; go_simp; (try with_reducible rfl)
        (try simp only [List.getElem_toArray, List.getElem_cons_succ, List.getElem_cons_zero])
        (try simp only [Act.put, List.setIfInBounds_toArray, List.set_cons_zero, List.set_cons_succ])
        refine wpTill_pure (i := 6) (v := ?_) rfl (by kernel_rfl) (by kernel_rfl) (by kernel_rfl) (by kernel_rfl) (fun _ _ _ h => h) (Or.inl ⟨by rfl, ?_⟩) (fun _ => hC0) ?_
        rotate_left
        · intro w hSw; clear hSw; go_simp; (try with_reducible rfl)
        (try simp only [List.getElem_toArray, List.getElem_cons_succ, List.getElem_cons_zero])
        (try simp only [Act.put, List.setIfInBounds_toArray, List.set_cons_zero, List.set_cons_succ])
        refine wpTill_take (i := 7) (v := ?_) rfl (by kernel_rfl) (by kernel_rfl) (by kernel_rfl) (by kernel_rfl) (by kernel_rfl) (by kernel_rfl) (fun _ _ _ h => h) (Or.inl ⟨by rfl, ?_⟩) hC0 ?_
        rotate_left
        · intro w hSw; (try dsimp only at hSw); obtain ⟨hSx, hSy⟩ := hSw; go_simp; (try with_reducible rfl)
        (try simp only [List.getElem_toArray, List.getElem_cons_succ, List.getElem_cons_zero])
        (try simp only [Act.put, List.setIfInBounds_toArray, List.set_cons_zero, List.set_cons_succ])
        refine wpTill_pure (i := 8) (v := ?_) rfl (by kernel_rfl) (by kernel_rfl) (by kernel_rfl) (by kernel_rfl) (fun _ _ _ h => h) (Or.inl ⟨by rfl, ?_⟩) (fun _ => hC0) ?_
        rotate_left
        · intro w hSw; clear hSw; go_simp; (try with_reducible rfl)
        (try simp only [List.getElem_toArray, List.getElem_cons_succ, List.getElem_cons_zero])
        (try simp only [Act.put, List.setIfInBounds_toArray, List.set_cons_zero, List.set_cons_succ])
        refine wpTill_pure (i := 9) (v := ?_) rfl (by kernel_rfl) (by kernel_rfl) (by kernel_rfl) (by kernel_rfl) (fun _ _ _ h => h) (Or.inl ⟨by rfl, ?_⟩) (fun _ => hC0) ?_
        rotate_left
        · intro w hSw; clear hSw; go_simp; (try with_reducible rfl)
        (try simp only [List.getElem_toArray, List.getElem_cons_succ, List.getElem_cons_zero])
        (try simp only [Act.put, List.setIfInBounds_toArray, List.set_cons_zero, List.set_cons_succ])
        refine wpTill_pure (i := 10) (v := ?_) rfl (by kernel_rfl) (by kernel_rfl) (by kernel_rfl) (by kernel_rfl) (fun _ _ _ h => h) (Or.inl ⟨by rfl, ?_⟩) (fun _ => hC0) ?_
        rotate_left
        · intro w hSw; clear hSw; go_simp; (try with_reducible rfl)
        (try simp only [List.getElem_toArray, List.getElem_cons_succ, List.getElem_cons_zero])
        (try simp only [Act.put, List.setIfInBounds_toArray, List.set_cons_zero, List.set_cons_succ])
        refine wpTill_take (i := 11) (v := ?_) rfl (by kernel_rfl) (by kernel_rfl) (by kernel_rfl) (by kernel_rfl) (by kernel_rfl) (by kernel_rfl) (fun _ _ _ h => h) (Or.inl ⟨by rfl, ?_⟩) hC0 ?_
        rotate_left
        · intro w hSw; (try dsimp only at hSw); obtain ⟨hSx, hSy⟩ := hSw; go_simp; (try with_reducible rfl)
        (try simp only [List.getElem_toArray, List.getElem_cons_succ, List.getElem_cons_zero])
        (try simp only [Act.put, List.setIfInBounds_toArray, List.set_cons_zero, List.set_cons_succ])
        refine wpTill_pure (i := 13) (v := ?_) rfl (by kernel_rfl) (by kernel_rfl) (by kernel_rfl) (by kernel_rfl) (fun _ _ _ h => h) (Or.inl ⟨by rfl, ?_⟩) (fun _ => hC0) ?_
        rotate_left
        · intro w hSw; clear hSw; go_simp; (try with_reducible rfl)
        (try simp only [List.getElem_toArray, List.getElem_cons_succ, List.getElem_cons_zero])
        (try simp only [Act.put, List.setIfInBounds_toArray, List.set_cons_zero, List.set_cons_succ])
        refine wpTill_pure (i := 14) (v := ?_) rfl (by kernel_rfl) (by kernel_rfl) (by kernel_rfl) (by kernel_rfl) (fun _ _ _ h => h) (Or.inl ⟨by rfl, ?_⟩) (fun _ => hC0) ?_
        rotate_left
        · intro w hSw; clear hSw; go_simp; (try with_reducible rfl)
        (try simp only [List.getElem_toArray, List.getElem_cons_succ, List.getElem_cons_zero])
        (try simp only [Act.put, List.setIfInBounds_toArray, List.set_cons_zero, List.set_cons_succ])
        refine wpTill_pure (i := 15) (v := ?_) rfl (by kernel_rfl) (by kernel_rfl) (by kernel_rfl) (by kernel_rfl) (fun _ _ _ h => h) (Or.inl ⟨by rfl, ?_⟩) (fun _ => hC0) ?_
        rotate_left
        · intro w hSw; clear hSw; go_simp; (try with_reducible rfl)
        (try simp only [List.getElem_toArray, List.getElem_cons_succ, List.getElem_cons_zero])
        (try simp only [Act.put, List.setIfInBounds_toArray, List.set_cons_zero, List.set_cons_succ])
        refine wpTill_take (i := 16) (v := ?_) rfl (by kernel_rfl) (by kernel_rfl) (by kernel_rfl) (by kernel_rfl) (by kernel_rfl) (by kernel_rfl) (fun _ _ _ h => h) (Or.inl ⟨by rfl, ?_⟩) hC0 ?_
        rotate_left
        · intro w hSw; (try dsimp only at hSw); obtain ⟨hSx, hSy⟩ := hSw; go_simp; (try with_reducible rfl)
        (try simp only [List.getElem_toArray, List.getElem_cons_succ, List.getElem_cons_zero])
        (try simp only [Act.put, List.setIfInBounds_toArray, List.set_cons_zero, List.set_cons_succ])
        refine wpTill_pure (i := 17) (v := ?_) rfl (by kernel_rfl) (by kernel_rfl) (by kernel_rfl) (by kernel_rfl) (fun _ _ _ h => h) (Or.inl ⟨by rfl, ?_⟩) (fun _ => hC0) ?_
        rotate_left
        · intro w hSw; clear hSw; go_simp; (try with_reducible rfl)
        (try simp only [List.getElem_toArray, List.getElem_cons_succ, List.getElem_cons_zero])
        (try simp only [Act.put, List.setIfInBounds_toArray, List.set_cons_zero, List.set_cons_succ])
        refine wpTill_pure (i := 18) (v := ?_) rfl (by kernel_rfl) (by kernel_rfl) (by kernel_rfl) (by kernel_rfl) (fun _ _ _ h => h) (Or.inl ⟨by rfl, ?_⟩) (fun _ => hC0) ?_
        rotate_left
        · intro w hSw; clear hSw; go_simp; (try with_reducible rfl)
        (try simp only [List.getElem_toArray, List.getElem_cons_succ, List.getElem_cons_zero])
        (try simp only [Act.put, List.setIfInBounds_toArray, List.set_cons_zero, List.set_cons_succ])
        refine wpTill_pure (i := 19) (v := ?_) rfl (by kernel_rfl) (by kernel_rfl) (by kernel_rfl) (by kernel_rfl) (fun _ _ _ h => h) (Or.inl ⟨by rfl, ?_⟩) (fun _ => hC0) ?_
        rotate_left
        · intro w hSw; clear hSw; go_simp; (try with_reducible rfl)
        (try simp only [List.getElem_toArray, List.getElem_cons_succ, List.getElem_cons_zero])
        (try simp only [Act.put, List.setIfInBounds_toArray, List.set_cons_zero, List.set_cons_succ])
        refine wpTill_take (i := 20) (v := ?_) rfl (by kernel_rfl) (by kernel_rfl) (by kernel_rfl) (by kernel_rfl) (by kernel_rfl) (by kernel_rfl) (fun _ _ _ h => h) (Or.inl ⟨by rfl, ?_⟩) hC0 ?_
        rotate_left
        · intro w hSw; (try dsimp only at hSw); obtain ⟨hSx, hSy⟩ := hSw; go_simp; (try with_reducible rfl)
        (try simp only [List.getElem_toArray, List.getElem_cons_succ, List.getElem_cons_zero])
        (try simp only [Act.put, List.setIfInBounds_toArray, List.set_cons_zero, List.set_cons_succ])
        refine wpTill_one (k := 12) (by kernel_rfl) rfl (fun K hK => ?_)
        (try simp only [List.getElem_toArray, List.getElem_cons_succ, List.getElem_cons_zero])
        go_simp
        refine (unhide HN1 _ (unhide HM1).drew).mono ?_
        rintro e w1 ⟨rfl, M1, A1⟩
        have A1' : Apart (w.heap.size + 1) wr w1 := ⟨A1.os, A1.tape, A1.output, A1.size, A1.block⟩
        have ox1 := A1'.head (unhide HD).ox (by omega)
        have oy1 := A1'.head (unhide HD).oy (by omega)
        have m21 := A1'.mix (unhide HM2) (by omega)
        have cx1 := (ox1.holds i (by rw [(unhide HD).sx]; omega)).1
        have cy1 := (oy1.holds i (by rw [(unhide HD).sy]; omega)).1
        rw [(unhide HD).rx i (Nat.le_refl _), unhide HX, Nat.zero_add] at cx1
        rw [(unhide HD).ry i (Nat.le_refl _), unhide HY, Nat.zero_add] at cy1
        have hC1 : (fun w' : World => w'.cell? ⟨ga, i, none⟩ = some (.int .u64 x) ∧ w'.cell? ⟨gb, i, none⟩ = some (.int .u64 y)) w1 := ⟨cx1, cy1⟩
        refine hK.out _ _ (fun _ => hC1) ?_
        clear hK K
        (try simp only [Act.put, List.setIfInBounds_toArray, List.set_cons_zero, List.set_cons_succ])
        refine wpTill_one (k := 21) (by kernel_rfl) rfl (fun K hK => ?_)
        (try simp only [List.getElem_toArray, List.getElem_cons_succ, List.getElem_cons_zero])
        go_simp
        refine (unhide HN2 _ m21).mono ?_
        rintro e w2 ⟨rfl, M2, A2⟩
        have ox2 := A2.head ox1 (by omega)
        have oy2 := A2.head oy1 (by omega)
        have cx2 := (ox2.holds i (by rw [(unhide HD).sx]; omega)).1
        have cy2 := (oy2.holds i (by rw [(unhide HD).sy]; omega)).1
        rw [(unhide HD).rx i (Nat.le_refl _), unhide HX, Nat.zero_add] at cx2
        rw [(unhide HD).ry i (Nat.le_refl _), unhide HY, Nat.zero_add] at cy2
        have hC2 : (fun w' : World => w'.cell? ⟨ga, i, none⟩ = some (.int .u64 x) ∧ w'.cell? ⟨gb, i, none⟩ = some (.int .u64 y)) w2 := ⟨cx2, cy2⟩
        have fx2 := (ox2.holds i (by rw [(unhide HD).sx]; omega)).2
        rw [Nat.zero_add] at fx2
        have oy3 := head_set_other (g' := ga) (i := i) (x := .int .u64 V1) oy2 (by omega)
        have cy3 := (oy3.holds i (by rw [(unhide HD).sy]; omega)).1
        have fy3 := (oy3.holds i (by rw [(unhide HD).sy]; omega)).2
        rw [Nat.zero_add] at cy3 fy3
        have NEW := hide (unhide STEP w1 w2 M1 A1' M2 A2)
        clear M1 M2 A1 A1' A2 ox1 oy1 ox2 oy2 oy3 m21 cx1 cy1 hC0 hC1 STEP HN1 HN2
        refine hK.out _ _ (fun _ => hC2) ?_
        clear hK K
        (try simp only [Act.put, List.setIfInBounds_toArray, List.set_cons_zero, List.set_cons_succ])
        refine wpTill_pure (i := 22) (v := ?_) rfl (by kernel_rfl) (by kernel_rfl) (by kernel_rfl) (by kernel_rfl) (fun _ _ _ h => h) (Or.inl ⟨by rfl, ?_⟩) (fun _ => hC2) ?_
        rotate_left
        · intro w hSw; clear hSw; go_simp; (try with_reducible rfl)
        (try simp only [List.getElem_toArray, List.getElem_cons_succ, List.getElem_cons_zero])
        (try simp only [Act.put, List.setIfInBounds_toArray, List.set_cons_zero, List.set_cons_succ])
        refine wpTill_one (k := 23) (by kernel_rfl) rfl (fun K hK => ?_)
        (try simp only [List.getElem_toArray, List.getElem_cons_succ, List.getElem_cons_zero])
        go_simp
        refine hK.out _ _ (fun h => absurd (h.symm.trans (by kernel_rfl)) Bool.false_ne_true) ?_
        clear hK K
        (try simp only [Act.put, List.setIfInBounds_toArray, List.set_cons_zero, List.set_cons_succ])
        refine wpTill_pure (i := 24) (v := ?_) rfl (by kernel_rfl) (by kernel_rfl) (by kernel_rfl) (by kernel_rfl) (fun _ _ _ h => h) (Or.inl ⟨by rfl, ?_⟩) (fun h => absurd (h.symm.trans (by kernel_rfl)) Bool.false_ne_true) ?_
        rotate_left
        · intro w hSw; clear hSw; go_simp; (try with_reducible rfl)
        (try simp only [List.getElem_toArray, List.getElem_cons_succ, List.getElem_cons_zero])
        (try simp only [Act.put, List.setIfInBounds_toArray, List.set_cons_zero, List.set_cons_succ])
        refine wpTill_one (k := 25) (by kernel_rfl) rfl (fun K hK => ?_)
        (try simp only [List.getElem_toArray, List.getElem_cons_succ, List.getElem_cons_zero])
        go_simp
        refine hK.out _ _ (fun h => absurd (h.symm.trans (by kernel_rfl)) Bool.false_ne_true) ?_
        clear hK K
        (try simp only [Act.put, List.setIfInBounds_toArray, List.set_cons_zero, List.set_cons_succ])
        refine wpTill_done (by kernel_rfl) ?_ _
        clear hC2 cx2 cy2 fx2 cy3 fy3
        go_wp2
        obtain ⟨ex', ey', z1, z2, z3, z4, z5, z6, D'⟩ := unhide NEW
        exact ⟨⟨i + 1, ex', ey', z1, z2, z3, z4, z5, z6, by go_num, by omega, D'⟩, by simp [intOf]; omega⟩
      · obtain rfl : i = mb := by omega
        have hAB := unhide HE0 trivial
        have hL := unhide HL
        have F := D.fin (mx := ma) (my := i) (by omega) (by omega) (by omega) (by omega) (unhide HT).va (unhide HT).vb hAB.1 hAB.2 hL.1 hL.2.1 hL.2.2.1 hL.2.2.2
        have rX := D.ox.rowIs (c := ca) (by rw [D.sx]; omega) (by omega)
        have rY := D.oy.rowIs (c := cb) (by rw [D.sy]; omega) (by omega)
        rw [D.sx] at rX
        rw [D.sy] at rY
        have rX' := row_less (m := i) rX (by omega)
        have rY' := row_less (m := i) rY (by omega)
        have HT1 := hide (trimmed_any _ i _ _ wr rX' (fun j hj => D.wx j (by omega)))
        have HT2 := hide (trimmed_any _ i _ _ wr rY' (fun j hj => D.wy j (by omega)))
        rw [F.1] at HT1
        rw [F.2] at HT2
        have FIN := hide (fun (m1 m2 : Nat) h1 h2 l1 l2 => TwoAt.of_done (m1 := m1) (m2 := m2) (cx := ca) (cy := cb) D (by have := (unhide HT).ne; omega) (by have := (unhide HT).ba; have := (unhide HT).bb; omega) (by have := (unhide HT).ba; have := (unhide HT).bb; omega) (by omega) (by omega) (by omega) (by omega) (by omega) (by omega) F.1 F.2 h1 h2 l1 l2)
        have BL := hide D.bl
        have SZ := hide (show base ≤ wr.heap.size by have := unhide HSW; rw [D.sz]; omega)
        clear D HD F rX rY rX' rY' hL hAB HT HL
        go_wp2_with fail
        refine (unhide HT1).mono ?_
        rintro e w'' ⟨m1, rfl, hm1, hl1, hw''⟩
        obtain rfl := hw''.symm
        have HL1 := hide hl1
        clear hl1 HT1
        go_wp2_with fail
        refine (unhide HT2).mono ?_
        rintro e w'' ⟨m2, rfl, hm2, hl2, hw''⟩
        obtain rfl := hw''.symm
        have RES := hide (unhide FIN m1 m2 hm1 hm2 (unhide HL1) hl2)
        clear hl2 HT2 FIN
        go_wp2
        go_ret2
        exact ⟨_, _, rfl, unhide RES, unhide BL, unhide SZ⟩
  · skip
    obtain ⟨W, hW⟩ : ∃ W, ((w.alloc (.cells #[.int .u64 p, .int .u64 q, .int .u64 r, .int .u64 s, .bool true] 119)).alloc (.cells #[.int .u64 p, .int .u64 q, .int .u64 0, .int .u64 0, .int .u64 0] 135)).alloc (.cells #[.int .u64 r, .int .u64 s, .int .u64 0, .int .u64 0, .int .u64 0] 135) = W := ⟨_, rfl⟩
    obtain ⟨mm1, mm2, bW, sW⟩ := made_three w _ p q r s hW
    have D0 := DoneAt.start (gx := gb) (gy := ga) (dx := db) (dy := da) (base := base) ((unhide HT).ob.below bW hgb) ((unhide HT).oa.below bW hga) (unhide HT).wb (unhide HT).wa mm1 mm2 (bW.mono hbase)
    have HD0 := hide D0
    have HWE := hide hW
    have HSW := hide sW
    clear D0 mm1 mm2 bW sW hW
    go_enter Tryd.func88, Tryd.ntmps88
    go_wp2_with fail
    rw [unhide HWE]
    go_loopw [31] (fun vi wr => ∃ (i : Nat) (ex ey : Array Int) (ca1 ch1 bo1 ca2 ch2 bo2 : Int), vi = .int .i64 i ∧ i ≤ mb ∧ DoneAt base W.heap.size w wr gb ga (w.heap.size + 1) (w.heap.size + 1 + 1) i db da p q r s ex ey ca1 ch1 bo1 ca2 ch2 bo2) (fun vi _ => mb - (intOf vi).toNat)
    case atStart => exact ⟨0, _, _, _, _, _, _, _, _, rfl, Nat.zero_le _, unhide HD0⟩
    case round =>
      obtain ⟨i, ex, ey, ca1, ch1, bo1, ca2, ch2, bo2, rfl, hi, D⟩ := hrel
      have HD := hide D
      by_cases hlt : i < mb
      · obtain ⟨x, hx⟩ : ∃ x, db[i]! = x := ⟨_, rfl⟩
        obtain ⟨y, hy⟩ : ∃ y, da[i]! = y := ⟨_, rfl⟩
        have wxi := D.wx i (by omega)
        have wyi := D.wy i (by omega)
        have hcx := (D.ox.holds i (by rw [D.sx]; omega)).1
        have hcy := (D.oy.holds i (by rw [D.sy]; omega)).1
        rw [D.rx i (Nat.le_refl _), hx] at hcx wxi
        rw [D.ry i (Nat.le_refl _), hy] at hcy wyi
        rw [Nat.zero_add] at hcx hcy
        have HN1 := hide (fun (w' : World) (hm : MixIs w' (w.heap.size + 1) p q ca1 ch1 bo1) => next_any (w.heap.size + 1) p q ca1 ch1 bo1 x y w' hm (unhide HP) (unhide HQ) D.b1.1 D.b1.2.1 D.b1.2.2.1 D.b1.2.2.2 wxi wyi)
        have HN2 := hide (fun (w' : World) (hm : MixIs w' (w.heap.size + 1 + 1) r s ca2 ch2 bo2) => next_any (w.heap.size + 1 + 1) r s ca2 ch2 bo2 y x w' hm (unhide HR) (unhide HS) D.b2.1 D.b2.2.1 D.b2.2.2.1 D.b2.2.2.2 wyi wxi)
        have hne := (unhide HT).ne
        have STEP := hide (fun (w1 w2 : World) M1 A1 M2 A2 => D.step (w1 := w1) (w2 := w2) (unhide HP) (unhide HQ) (unhide HR) (unhide HS) (by omega) (by omega) (by omega) (by omega) (by omega) (by omega) (by omega) (by omega) (by have := (unhide HT).ba; have := (unhide HT).bb; omega) (by have := (unhide HT).ba; have := (unhide HT).bb; omega) (by omega) (by omega) M1 A1 M2 A2)
        rw [hx, hy] at STEP
        have hi0 : (0 : Int) ≤ (i : Int) := by omega
        have hi1 : (i : Int) < (mb : Int) := by omega
        have hit : ((i : Int)).toNat = i := by omega
        have hm1 := D.m1
        have hm2 := D.m2
        have HX := hide hx
        have HY := hide hy
        have HM1 := hide hm1
        have HM2 := hide hm2
        clear D hm1 hm2 hx hy wxi wyi
        obtain ⟨V1, hV1⟩ : ∃ v, ((p * x + ca1) % 18446744073709551616 - (q * y + ch1) % 18446744073709551616 - bo1) % 18446744073709551616 = v := ⟨_, rfl⟩
        obtain ⟨V2, hV2⟩ : ∃ v, ((r * y + ca2) % 18446744073709551616 - (s * x + ch2) % 18446744073709551616 - bo2) % 18446744073709551616 = v := ⟨_, rfl⟩
        rw [hV1] at HN1 STEP
        rw [hV2] at HN2 STEP
        clear hV1 hV2
        go_wp2_with fail
        refine wp_region_till (fun w' => w'.cell? ⟨gb, i, none⟩ = some (.int .u64 x) ∧ w'.cell? ⟨ga, i, none⟩ = some (.int .u64 y)) 23 (by kernel_rfl) ?_
        have hC0 : (fun w' : World => w'.cell? ⟨gb, i, none⟩ = some (.int .u64 x) ∧ w'.cell? ⟨ga, i, none⟩ = some (.int .u64 y)) wr.drew := ⟨hcx, hcy⟩
        refine wpTill_pure (i := 0) (v := ?_) rfl (by kernel_rfl) (by kernel_rfl) (by kernel_rfl) (by kernel_rfl) (fun _ _ _ h => h) (Or.inl ⟨by rfl, ?_⟩) (fun _ => hC0) ?_
        rotate_left
        · intro w hSw; clear hSw; go_simp; (try with_reducible rfl)
        (try simp only [List.getElem_toArray, List.getElem_cons_zero])
        (try simp only [Act.put, List.setIfInBounds_toArray, List.set_cons_zero, List.set_cons_succ])
        refine wpTill_pure (i := 1) (v := ?_) rfl (by kernel_rfl) (by kernel_rfl) (by kernel_rfl) (by kernel_rfl) (fun _ _ _ h => h) (Or.inl ⟨by rfl, ?_⟩) (fun _ => hC0) ?_
        rotate_left
        · intro w hSw; clear hSw; go_simp; (try with_reducible rfl)
        (try simp only [List.getElem_toArray, List.getElem_cons_succ, List.getElem_cons_zero])
        (try simp only [Act.put, List.setIfInBounds_toArray, List.set_cons_zero, List.set_cons_succ])
        refine wpTill_pure (i := 2) (v := ?_) rfl (by kernel_rfl) (by kernel_rfl) (by kernel_rfl) (by kernel_rfl) (fun _ _ _ h => h) (Or.inl ⟨by rfl, ?_⟩) (fun _ => hC0) ?_
        rotate_left
        · intro w hSw; clear hSw; go_simp; (try with_reducible rfl)
        (try simp only [List.getElem_toArray, List.getElem_cons_succ, List.getElem_cons_zero])
        (try simp only [Act.put, List.setIfInBounds_toArray, List.set_cons_zero, List.set_cons_succ])
        refine wpTill_pure (i := 3) (v := ?_) rfl (by kernel_rfl) (by kernel_rfl) (by kernel_rfl) (by kernel_rfl) (fun _ _ _ h => h) (Or.inl ⟨by rfl, ?_⟩) (fun _ => hC0) ?_
        rotate_left
        · intro w hSw; clear hSw; go_simp; (try with_reducible rfl)
        (try simp only [List.getElem_toArray, List.getElem_cons_succ, List.getElem_cons_zero])
        (try simp only [Act.put, List.setIfInBounds_toArray, List.set_cons_zero, List.set_cons_succ])
        refine wpTill_pure (i := 4) (v := ?_) rfl (by kernel_rfl) (by kernel_rfl) (by kernel_rfl) (by kernel_rfl) (fun _ _ _ h => h) (Or.inl ⟨by rfl, ?_⟩) (fun _ => hC0) ?_
        rotate_left
        · intro w hSw; clear hSw; go_simp; (try with_reducible rfl)
        (try simp only [List.getElem_toArray, List.getElem_cons_succ, List.getElem_cons_zero])
        (try simp only [Act.put, List.setIfInBounds_toArray, List.set_cons_zero, List.set_cons_succ])
        refine wpTill_pure (i := 5) (v := ?_) rfl (by kernel_rfl) (by kernel_rfl) (by kernel_rfl) (by kernel_rfl) (fun _ _ _ h => h) (Or.inl ⟨by rfl, ?_⟩) (fun _ => hC0) ?_
        rotate_left
        · intro w hSw; clear hSw; go_simp; (try with_reducible rfl)
        (try simp only [List.getElem_toArray, List.getElem_cons_succ, List.getElem_cons_zero])
        (try simp only [Act.put, List.setIfInBounds_toArray, List.set_cons_zero, List.set_cons_succ])
        refine wpTill_pure (i := 6) (v := ?_) rfl (by kernel_rfl) (by kernel_rfl) (by kernel_rfl) (by kernel_rfl) (fun _ _ _ h => h) (Or.inl ⟨by rfl, ?_⟩) (fun _ => hC0) ?_
        rotate_left
        · intro w hSw; clear hSw; go_simp; (try with_reducible rfl)
        (try simp only [List.getElem_toArray, List.getElem_cons_succ, List.getElem_cons_zero])
        (try simp only [Act.put, List.setIfInBounds_toArray, List.set_cons_zero, List.set_cons_succ])
        refine wpTill_take (i := 7) (v := ?_) rfl (by kernel_rfl) (by kernel_rfl) (by kernel_rfl) (by kernel_rfl) (by kernel_rfl) (by kernel_rfl) (fun _ _ _ h => h) (Or.inl ⟨by rfl, ?_⟩) hC0 ?_
        rotate_left
        · intro w hSw; (try dsimp only at hSw); obtain ⟨hSx, hSy⟩ := hSw; go_simp; (try with_reducible rfl)
        (try simp only [List.getElem_toArray, List.getElem_cons_succ, List.getElem_cons_zero])
        (try simp only [Act.put, List.setIfInBounds_toArray, List.set_cons_zero, List.set_cons_succ])
        refine wpTill_pure (i := 8) (v := ?_) rfl (by kernel_rfl) (by kernel_rfl) (by kernel_rfl) (by kernel_rfl) (fun _ _ _ h => h) (Or.inl ⟨by rfl, ?_⟩) (fun _ => hC0) ?_
        rotate_left
        · intro w hSw; clear hSw; go_simp; (try with_reducible rfl)
        (try simp only [List.getElem_toArray, List.getElem_cons_succ, List.getElem_cons_zero])
        (try simp only [Act.put, List.setIfInBounds_toArray, List.set_cons_zero, List.set_cons_succ])
        refine wpTill_pure (i := 9) (v := ?_) rfl (by kernel_rfl) (by kernel_rfl) (by kernel_rfl) (by kernel_rfl) (fun _ _ _ h => h) (Or.inl ⟨by rfl, ?_⟩) (fun _ => hC0) ?_
        rotate_left
        · intro w hSw; clear hSw; go_simp; (try with_reducible rfl)
        (try simp only [List.getElem_toArray, List.getElem_cons_succ, List.getElem_cons_zero])
        (try simp only [Act.put, List.setIfInBounds_toArray, List.set_cons_zero, List.set_cons_succ])
        refine wpTill_pure (i := 10) (v := ?_) rfl (by kernel_rfl) (by kernel_rfl) (by kernel_rfl) (by kernel_rfl) (fun _ _ _ h => h) (Or.inl ⟨by rfl, ?_⟩) (fun _ => hC0) ?_
        rotate_left
        · intro w hSw; clear hSw; go_simp; (try with_reducible rfl)
        (try simp only [List.getElem_toArray, List.getElem_cons_succ, List.getElem_cons_zero])
        (try simp only [Act.put, List.setIfInBounds_toArray, List.set_cons_zero, List.set_cons_succ])
        refine wpTill_take (i := 11) (v := ?_) rfl (by kernel_rfl) (by kernel_rfl) (by kernel_rfl) (by kernel_rfl) (by kernel_rfl) (by kernel_rfl) (fun _ _ _ h => h) (Or.inl ⟨by rfl, ?_⟩) hC0 ?_
        rotate_left
        · intro w hSw; (try dsimp only at hSw); obtain ⟨hSx, hSy⟩ := hSw; go_simp; (try with_reducible rfl)
        (try simp only [List.getElem_toArray, List.getElem_cons_succ, List.getElem_cons_zero])
        (try simp only [Act.put, List.setIfInBounds_toArray, List.set_cons_zero, List.set_cons_succ])
        refine wpTill_pure (i := 13) (v := ?_) rfl (by kernel_rfl) (by kernel_rfl) (by kernel_rfl) (by kernel_rfl) (fun _ _ _ h => h) (Or.inl ⟨by rfl, ?_⟩) (fun _ => hC0) ?_
        rotate_left
        · intro w hSw; clear hSw; go_simp; (try with_reducible rfl)
        (try simp only [List.getElem_toArray, List.getElem_cons_succ, List.getElem_cons_zero])
        (try simp only [Act.put, List.setIfInBounds_toArray, List.set_cons_zero, List.set_cons_succ])
        refine wpTill_pure (i := 14) (v := ?_) rfl (by kernel_rfl) (by kernel_rfl) (by kernel_rfl) (by kernel_rfl) (fun _ _ _ h => h) (Or.inl ⟨by rfl, ?_⟩) (fun _ => hC0) ?_
        rotate_left
        · intro w hSw; clear hSw; go_simp; (try with_reducible rfl)
        (try simp only [List.getElem_toArray, List.getElem_cons_succ, List.getElem_cons_zero])
        (try simp only [Act.put, List.setIfInBounds_toArray, List.set_cons_zero, List.set_cons_succ])
        refine wpTill_pure (i := 15) (v := ?_) rfl (by kernel_rfl) (by kernel_rfl) (by kernel_rfl) (by kernel_rfl) (fun _ _ _ h => h) (Or.inl ⟨by rfl, ?_⟩) (fun _ => hC0) ?_
        rotate_left
        · intro w hSw; clear hSw; go_simp; (try with_reducible rfl)
        (try simp only [List.getElem_toArray, List.getElem_cons_succ, List.getElem_cons_zero])
        (try simp only [Act.put, List.setIfInBounds_toArray, List.set_cons_zero, List.set_cons_succ])
        refine wpTill_take (i := 16) (v := ?_) rfl (by kernel_rfl) (by kernel_rfl) (by kernel_rfl) (by kernel_rfl) (by kernel_rfl) (by kernel_rfl) (fun _ _ _ h => h) (Or.inl ⟨by rfl, ?_⟩) hC0 ?_
        rotate_left
        · intro w hSw; (try dsimp only at hSw); obtain ⟨hSx, hSy⟩ := hSw; go_simp; (try with_reducible rfl)
        (try simp only [List.getElem_toArray, List.getElem_cons_succ, List.getElem_cons_zero])
        (try simp only [Act.put, List.setIfInBounds_toArray, List.set_cons_zero, List.set_cons_succ])
        refine wpTill_pure (i := 17) (v := ?_) rfl (by kernel_rfl) (by kernel_rfl) (by kernel_rfl) (by kernel_rfl) (fun _ _ _ h => h) (Or.inl ⟨by rfl, ?_⟩) (fun _ => hC0) ?_
        rotate_left
        · intro w hSw; clear hSw; go_simp; (try with_reducible rfl)
        (try simp only [List.getElem_toArray, List.getElem_cons_succ, List.getElem_cons_zero])
        (try simp only [Act.put, List.setIfInBounds_toArray, List.set_cons_zero, List.set_cons_succ])
        refine wpTill_pure (i := 18) (v := ?_) rfl (by kernel_rfl) (by kernel_rfl) (by kernel_rfl) (by kernel_rfl) (fun _ _ _ h => h) (Or.inl ⟨by rfl, ?_⟩) (fun _ => hC0) ?_
        rotate_left
        · intro w hSw; clear hSw; go_simp; (try with_reducible rfl)
        (try simp only [List.getElem_toArray, List.getElem_cons_succ, List.getElem_cons_zero])
        (try simp only [Act.put, List.setIfInBounds_toArray, List.set_cons_zero, List.set_cons_succ])
        refine wpTill_pure (i := 19) (v := ?_) rfl (by kernel_rfl) (by kernel_rfl) (by kernel_rfl) (by kernel_rfl) (fun _ _ _ h => h) (Or.inl ⟨by rfl, ?_⟩) (fun _ => hC0) ?_
        rotate_left
        · intro w hSw; clear hSw; go_simp; (try with_reducible rfl)
        (try simp only [List.getElem_toArray, List.getElem_cons_succ, List.getElem_cons_zero])
        (try simp only [Act.put, List.setIfInBounds_toArray, List.set_cons_zero, List.set_cons_succ])
        refine wpTill_take (i := 20) (v := ?_) rfl (by kernel_rfl) (by kernel_rfl) (by kernel_rfl) (by kernel_rfl) (by kernel_rfl) (by kernel_rfl) (fun _ _ _ h => h) (Or.inl ⟨by rfl, ?_⟩) hC0 ?_
        rotate_left
        · intro w hSw; (try dsimp only at hSw); obtain ⟨hSx, hSy⟩ := hSw; go_simp; (try with_reducible rfl)
        (try simp only [List.getElem_toArray, List.getElem_cons_succ, List.getElem_cons_zero])
        (try simp only [Act.put, List.setIfInBounds_toArray, List.set_cons_zero, List.set_cons_succ])
        refine wpTill_one (k := 12) (by kernel_rfl) rfl (fun K hK => ?_)
        (try simp only [List.getElem_toArray, List.getElem_cons_succ, List.getElem_cons_zero])
        go_simp
        refine (unhide HN1 _ (unhide HM1).drew).mono ?_
        rintro e w1 ⟨rfl, M1, A1⟩
        have A1' : Apart (w.heap.size + 1) wr w1 := ⟨A1.os, A1.tape, A1.output, A1.size, A1.block⟩
        have ox1 := A1'.head (unhide HD).ox (by omega)
        have oy1 := A1'.head (unhide HD).oy (by omega)
        have m21 := A1'.mix (unhide HM2) (by omega)
        have cx1 := (ox1.holds i (by rw [(unhide HD).sx]; omega)).1
        have cy1 := (oy1.holds i (by rw [(unhide HD).sy]; omega)).1
        rw [(unhide HD).rx i (Nat.le_refl _), unhide HX, Nat.zero_add] at cx1
        rw [(unhide HD).ry i (Nat.le_refl _), unhide HY, Nat.zero_add] at cy1
        have hC1 : (fun w' : World => w'.cell? ⟨gb, i, none⟩ = some (.int .u64 x) ∧ w'.cell? ⟨ga, i, none⟩ = some (.int .u64 y)) w1 := ⟨cx1, cy1⟩
        refine hK.out _ _ (fun _ => hC1) ?_
        clear hK K
        (try simp only [Act.put, List.setIfInBounds_toArray, List.set_cons_zero, List.set_cons_succ])
        refine wpTill_one (k := 21) (by kernel_rfl) rfl (fun K hK => ?_)
        (try simp only [List.getElem_toArray, List.getElem_cons_succ, List.getElem_cons_zero])
        go_simp
        refine (unhide HN2 _ m21).mono ?_
        rintro e w2 ⟨rfl, M2, A2⟩
        have ox2 := A2.head ox1 (by omega)
        have oy2 := A2.head oy1 (by omega)
        have cx2 := (ox2.holds i (by rw [(unhide HD).sx]; omega)).1
        have cy2 := (oy2.holds i (by rw [(unhide HD).sy]; omega)).1
        rw [(unhide HD).rx i (Nat.le_refl _), unhide HX, Nat.zero_add] at cx2
        rw [(unhide HD).ry i (Nat.le_refl _), unhide HY, Nat.zero_add] at cy2
        have hC2 : (fun w' : World => w'.cell? ⟨gb, i, none⟩ = some (.int .u64 x) ∧ w'.cell? ⟨ga, i, none⟩ = some (.int .u64 y)) w2 := ⟨cx2, cy2⟩
        have fx2 := (ox2.holds i (by rw [(unhide HD).sx]; omega)).2
        rw [Nat.zero_add] at fx2
        have oy3 := head_set_other (g' := gb) (i := i) (x := .int .u64 V1) oy2 (by omega)
        have cy3 := (oy3.holds i (by rw [(unhide HD).sy]; omega)).1
        have fy3 := (oy3.holds i (by rw [(unhide HD).sy]; omega)).2
        rw [Nat.zero_add] at cy3 fy3
        have NEW := hide (unhide STEP w1 w2 M1 A1' M2 A2)
        clear M1 M2 A1 A1' A2 ox1 oy1 ox2 oy2 oy3 m21 cx1 cy1 hC0 hC1 STEP HN1 HN2
        refine hK.out _ _ (fun _ => hC2) ?_
        clear hK K
        (try simp only [Act.put, List.setIfInBounds_toArray, List.set_cons_zero, List.set_cons_succ])
        refine wpTill_pure (i := 22) (v := ?_) rfl (by kernel_rfl) (by kernel_rfl) (by kernel_rfl) (by kernel_rfl) (fun _ _ _ h => h) (Or.inl ⟨by rfl, ?_⟩) (fun _ => hC2) ?_
        rotate_left
        · intro w hSw; clear hSw; go_simp; (try with_reducible rfl)
        (try simp only [List.getElem_toArray, List.getElem_cons_succ, List.getElem_cons_zero])
        (try simp only [Act.put, List.setIfInBounds_toArray, List.set_cons_zero, List.set_cons_succ])
        refine wpTill_one (k := 23) (by kernel_rfl) rfl (fun K hK => ?_)
        (try simp only [List.getElem_toArray, List.getElem_cons_succ, List.getElem_cons_zero])
        go_simp
        refine hK.out _ _ (fun h => absurd (h.symm.trans (by kernel_rfl)) Bool.false_ne_true) ?_
        clear hK K
        (try simp only [Act.put, List.setIfInBounds_toArray, List.set_cons_zero, List.set_cons_succ])
        refine wpTill_pure (i := 24) (v := ?_) rfl (by kernel_rfl) (by kernel_rfl) (by kernel_rfl) (by kernel_rfl) (fun _ _ _ h => h) (Or.inl ⟨by rfl, ?_⟩) (fun h => absurd (h.symm.trans (by kernel_rfl)) Bool.false_ne_true) ?_
        rotate_left
        · intro w hSw; clear hSw; go_simp; (try with_reducible rfl)
        (try simp only [List.getElem_toArray, List.getElem_cons_succ, List.getElem_cons_zero])
        (try simp only [Act.put, List.setIfInBounds_toArray, List.set_cons_zero, List.set_cons_succ])
        refine wpTill_one (k := 25) (by kernel_rfl) rfl (fun K hK => ?_)
        (try simp only [List.getElem_toArray, List.getElem_cons_succ, List.getElem_cons_zero])
        go_simp
        refine hK.out _ _ (fun h => absurd (h.symm.trans (by kernel_rfl)) Bool.false_ne_true) ?_
        clear hK K
        (try simp only [Act.put, List.setIfInBounds_toArray, List.set_cons_zero, List.set_cons_succ])
        refine wpTill_done (by kernel_rfl) ?_ _
        clear hC2 cx2 cy2 fx2 cy3 fy3
        go_wp2
        obtain ⟨ex', ey', z1, z2, z3, z4, z5, z6, D'⟩ := unhide NEW
        exact ⟨⟨i + 1, ex', ey', z1, z2, z3, z4, z5, z6, by go_num, by omega, D'⟩, by simp [intOf]; omega⟩
      · obtain rfl : i = mb := by omega
        have hAB := unhide HE1 trivial
        have hL := unhide HL
        have F := D.fin (mx := i) (my := ma) (by omega) (by omega) (by omega) (by omega) (unhide HT).vb (unhide HT).va hAB.1 hAB.2 hL.1 hL.2.1 hL.2.2.1 hL.2.2.2
        have rX := D.ox.rowIs (c := cb) (by rw [D.sx]; omega) (by omega)
        have rY := D.oy.rowIs (c := ca) (by rw [D.sy]; omega) (by omega)
        rw [D.sx] at rX
        rw [D.sy] at rY
        have rX' := row_less (m := i) rX (by omega)
        have rY' := row_less (m := i) rY (by omega)
        have HT1 := hide (trimmed_any _ i _ _ wr rX' (fun j hj => D.wx j (by omega)))
        have HT2 := hide (trimmed_any _ i _ _ wr rY' (fun j hj => D.wy j (by omega)))
        rw [F.1] at HT1
        rw [F.2] at HT2
        have FIN := hide (fun (m1 m2 : Nat) h1 h2 l1 l2 => TwoAt.of_done (m1 := m1) (m2 := m2) (cx := cb) (cy := ca) D (by have := (unhide HT).ne; omega) (by have := (unhide HT).ba; have := (unhide HT).bb; omega) (by have := (unhide HT).ba; have := (unhide HT).bb; omega) (by omega) (by omega) (by omega) (by omega) (by omega) (by omega) F.1 F.2 h1 h2 l1 l2)
        have BL := hide D.bl
        have SZ := hide (show base ≤ wr.heap.size by have := unhide HSW; rw [D.sz]; omega)
        clear D HD F rX rY rX' rY' hL hAB HT HL
        go_wp2_with fail
        refine (unhide HT1).mono ?_
        rintro e w'' ⟨m1, rfl, hm1, hl1, hw''⟩
        obtain rfl := hw''.symm
        have HL1 := hide hl1
        clear hl1 HT1
        go_wp2_with fail
        refine (unhide HT2).mono ?_
        rintro e w'' ⟨m2, rfl, hm2, hl2, hw''⟩
        obtain rfl := hw''.symm
        have RES := hide (unhide FIN m1 m2 hm1 hm2 (unhide HL1) hl2)
        clear hl2 HT2 FIN
        go_wp2
        go_ret2
        exact ⟨_, _, rfl, unhide RES, unhide BL, unhide SZ⟩
end Go.Proofs.YtdicbnchkfclaaaDoor
