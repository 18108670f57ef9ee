/- The newsvendor: the law's walk. -/
import Derived.Test.YtohkmkoklhnnlaaDoorO5
import Derived.Test.YtohkmkoklhnnlaaDoorK1
namespace Go.Proofs.YtohkmkoklhnnlaaDoor
open Go.RowKit Go.Sort Go.Shelf

theorem uns_step (qs : List Rat) (n : Nat) : ∀ k, rsum qs (unsR (n + 1)) k - rsum qs (unsR n) k = qsum qs (min k (n + 1))
  | 0 => by simp [rsum, qsum]; grind
  | k + 1 => by
    have ih := uns_step qs n k
    by_cases h : k < n + 1
    · have e : uns (n + 1) k = uns n k + 1 := by unfold uns; omega
      have er : unsR (n + 1) k = unsR n k + 1 := by unfold unsR; rw [e, Rat.intCast_add]; rfl
      rw [show min (k + 1) (n + 1) = k + 1 by omega]
      rw [show min k (n + 1) = k by omega] at ih
      show rsum qs (unsR (n + 1)) k + qs[k]! * unsR (n + 1) k - (rsum qs (unsR n) k + qs[k]! * unsR n k) = qsum qs k + qs[k]!
      rw [er]
      grind
    · have e : uns (n + 1) k = uns n k := by unfold uns; omega
      have er : unsR (n + 1) k = unsR n k := by unfold unsR; rw [e]
      rw [show min (k + 1) (n + 1) = n + 1 by omega]
      rw [show min k (n + 1) = n + 1 by omega] at ih
      show rsum qs (unsR (n + 1)) k + qs[k]! * unsR (n + 1) k - (rsum qs (unsR n) k + qs[k]! * unsR n k) = qsum qs (n + 1)
      rw [er]
      grind
theorem loss_step {qs : List Rat} (h : qsum qs qs.length = 1) (a b : Rat) (n : Nat) : lossV qs a b (n + 1) = lossV qs a b n + ((a + b) * qsum qs (min qs.length (n + 1)) - a) := by
  have h1 := over_step qs n qs.length
  have h2 := uns_step qs n qs.length
  rw [h] at h1
  unfold lossV
  grind
theorem qsum_mono {qs : List Rat} (h : ∀ j, j < qs.length → 0 ≤ qs[j]!.num) : ∀ {i k : Nat}, i ≤ k → k ≤ qs.length → qsum qs i ≤ qsum qs k
  | i, 0, hi, _ => by rw [show i = 0 by omega]; exact Rat.le_refl
  | i, k + 1, hi, hk => by
    by_cases c : i = k + 1
    · rw [c]; exact Rat.le_refl
    · have ih := qsum_mono h (i := i) (k := k) (by omega) (by omega)
      have h1 : 0 ≤ qs[k]! := Rat.num_nonneg.1 (h k (by omega))
      show qsum qs i ≤ qsum qs k + qs[k]!
      grind
theorem mul_share {a b q : Rat} (hs : 0 < a + b) : (q < a / (a + b) → (a + b) * q ≤ a) ∧ (a / (a + b) ≤ q → a ≤ (a + b) * q) := by
  have e : (a + b) * (a + b)⁻¹ = 1 := Rat.mul_inv_cancel _ (fun h => by rw [h] at hs; exact absurd hs (by decide))
  have e2 : (a + b) * (a / (a + b)) = a := by rw [Rat.div_def]; grind
  refine ⟨fun h => ?_, fun h => ?_⟩
  · have := Rat.mul_le_mul_of_nonneg_left (Rat.le_of_lt h) (Rat.le_of_lt hs)
    rw [e2] at this
    exact this
  · have := Rat.mul_le_mul_of_nonneg_left h (Rat.le_of_lt hs)
    rw [e2] at this
    exact this
/-- THE NEWSVENDOR: no other number of papers loses less. -/
theorem news_least {qs : List Rat} {a b : Rat} {n : Nat} (hc : ncode qs a b = 0) (h : NewsIs qs a b n) (k : Nat) : lossV qs a b n ≤ lossV qs a b k := by
  have hck : chk qs = 0 := by
    unfold ncode at hc
    by_cases c : chk qs = 0
    · exact c
    · rw [if_pos c] at hc; exact absurd hc c
  have hab : ¬ (a < 0 ∨ b < 0) := fun h => by
    unfold ncode at hc
    rw [if_neg (by rw [hck]; decide), if_pos h] at hc
    exact absurd hc (by decide)
  have pa : 0 ≤ a := by grind
  have pb : 0 ≤ b := by grind
  obtain ⟨c1, c2, c3, c4⟩ := chk_zero hck
  have nn : ∀ i, i ≤ qs.length → 0 ≤ qsum qs i := fun i hi => by
    have := qsum_mono c3 (Nat.zero_le i) hi
    exact this
  refine Sto.news (f := lossV qs a b) (Q := fun n => qsum qs (min qs.length (n + 1))) (loss_step c4 a b) (fun i hi => ?_) (fun i hi => ?_) k
  · rcases h with ⟨_, rfl⟩ | ⟨h0, h1, h2, h3⟩
    · exact absurd hi (Nat.not_lt_zero _)
    · have hs : 0 < a + b := by grind
      have hm := qsum_mono c3 (show min qs.length (i + 1) ≤ n by omega) (by omega)
      exact (mul_share hs).1 (by grind)
  · rcases h with ⟨h0, rfl⟩ | ⟨h0, h1, h2, h3⟩
    · have h5 := nn (min qs.length (i + 1)) (by omega)
      have h6 := Rat.mul_nonneg (show 0 ≤ a + b by grind) h5
      rw [h0] at h6 ⊢
      exact h6
    · have hs : 0 < a + b := by grind
      have hm := qsum_mono c3 (show n + 1 ≤ min qs.length (i + 1) by omega) (by omega)
      exact (mul_share hs).2 (by grind)
theorem lossV_RS {qs : List Rat} {a b : Rat} {n : Nat} (hq : ∀ j, j < qs.length → RS qs[j]! 1) (hl : qs.length ≤ 101) (ha : RS a 1) (hb : RS b 1) (hn : n ≤ 100) : RS (lossV qs a b n) 2000 := by
  have rm := wsum_RS (F := over n) hq (fun j hj => over_I64 (by omega)) qs.length (Nat.le_refl _)
  have ru := rsum_RS (F := unsR n) (JF := 1) hq (fun j _ => whole_RS (uns_I64 (by omega))) qs.length (Nat.le_refl _)
  exact ((ha.mul rm).add (hb.mul ru)).mono (by omega)
theorem sm_RS {q : Rat} {j : Nat} (h : RS q j) (hj : j ≤ KK) : Sm q.num.natAbs ∧ Sm q.den := ⟨sm_of h.1 hj, sm_of h.2 hj⟩
theorem cmp_le {p q : Rat} (h : p ≤ q) : Wd.sg (p.num * q.den) (q.num * p.den) ≤ 0 := by
  have h1 := (Rat.le_iff p q).1 h
  rcases Int.lt_or_le 0 (Wd.sg (p.num * q.den) (q.num * p.den)) with c | c
  · have := sgl_pos.1 c; omega
  · exact c
/-- What News left. -/
def NwAt (qs : List Rat) (a b : Rat) (w : World) (s : Value) : Prop := ∃ (n : Int) (t : Tri) (ev : Value), s = .tuple #[.int .i64 n, t.val, ev] ∧
  ((ncode qs a b ≠ 0 ∧ n = 0 ∧ RatIs w t.val 0 ∧ ev = .iface 45 (.int .i64 (ncode qs a b))) ∨ (ncode qs a b = 0 ∧ ev = .nilIface ∧ ∃ m : Nat, n = (m : Int) ∧ NewsIs qs a b m ∧ RatIs w t.val (lossV qs a b m)))
theorem NwAt.keep {qs : List Rat} {a b : Rat} {w w' : World} {s : Value} (h : NwAt qs a b w s) (hb : Below w.heap.size w w') : NwAt qs a b w' s := by
  obtain ⟨n, t, ev, e, h⟩ := h
  refine ⟨n, t, ev, e, ?_⟩
  rcases h with ⟨h1, h2, h3, h4⟩ | ⟨h1, h2, m, h3, h4, h5⟩
  · exact Or.inl ⟨h1, h2, h3.below hb, h4⟩
  · exact Or.inr ⟨h1, h2, m, h3, h4, h5.below hb⟩
theorem news_at (v vl vf : Value) (qs : List Rat) (a b : Rat) (w : World) (h : LawIs w v qs) (hl : RatIs w vl a) (hf : RatIs w vf b) (hq : ∀ j, j < qs.length → RS qs[j]! 1) (ha : RS a 1) (hb : RS b 1) (hlen : qs.length ≤ 1000) :
    Calls Tryd.prog 4 #[v, vl, vf] w fun e w' => ∃ x, e = .returned x ∧ NwAt qs a b w' x ∧ Below w.heap.size w w' := by
  refine (news_any v vl vf qs a b w h hl hf hq ha hb hlen).mono ?_
  rintro e w' ⟨hb, ⟨hc, rfl⟩ | ⟨hc, n, x, rfl, hn, hx⟩⟩
  · exact ⟨_, rfl, ⟨0, zTri, _, rfl, Or.inl ⟨hc, rfl, rat_zero _, rfl⟩⟩, hb⟩
  · obtain ⟨t, rfl, hr⟩ := tri_of hx
    exact ⟨_, rfl, ⟨n, t, _, rfl, Or.inr ⟨hc, rfl, n, rfl, hn, hr⟩⟩, hb⟩

/-- 4 calls one behind the other, and a box. -/
structure Nj4 (P1 P2 P3 P4 : World → Value → Prop) (w0 : World) (c : Nat) (l : Bool) (w : World) (s1 s2 s3 s4 s5 : Value) : Prop where
  bl : Below w0.heap.size w0 w
  r1 : 1 ≤ c → P1 w s1
  r2 : 2 ≤ c → P2 w s2
  r3 : 3 ≤ c → P3 w s3
  r4 : 4 ≤ c → P4 w s4
  al : l = true → ∃ b, s5 = .pointer (some ⟨b, 0, none⟩) ∧ BoxIs w b zTri 0 ∧ w0.heap.size ≤ b
/-- 5 calls one behind the other, and a box. -/
structure Nj5 (P1 P2 P3 P4 P5 : World → Value → Prop) (w0 : World) (c : Nat) (l : Bool) (w : World) (s1 s2 s3 s4 s5 s6 : Value) : Prop where
  bl : Below w0.heap.size w0 w
  r1 : 1 ≤ c → P1 w s1
  r2 : 2 ≤ c → P2 w s2
  r3 : 3 ≤ c → P3 w s3
  r4 : 4 ≤ c → P4 w s4
  r5 : 5 ≤ c → P5 w s5
  al : l = true → ∃ b, s6 = .pointer (some ⟨b, 0, none⟩) ∧ BoxIs w b zTri 0 ∧ w0.heap.size ≤ b
set_option maxHeartbeats 16000000 in
set_option maxRecDepth 100000 in
set_option linter.unusedSimpArgs false in
theorem storeNewsed_any (v : Value) (ps : List (Int × Int)) (x y z u other : Int) (w : World) (htab : Tab w) (hp : PairsAre w v ps) (hx : I64 x) (hy : I64 y) (hz : I64 z) (hu : I64 u) :
    Calls Tryd.prog 3 #[v, .agg #[.int .i64 x, .int .i64 y], .agg #[.int .i64 z, .int .i64 u], .int .i64 other] w fun e w' => e = .returned (.bool true) ∧ Below w.heap.size w w' := by
  have HP0 := hide hp
  obtain ⟨a, c, rfl, h1, h2, hI, h3⟩ := hp
  have b1 := alloc_below w (.cells #[.int .i64 x, .int .i64 y] 24)
  have X0 := heap_alloc_new w (.cells #[.int .i64 x, .int .i64 y] 24)
  obtain ⟨W1, hW1⟩ : ∃ W, w.alloc (.cells #[.int .i64 x, .int .i64 y] 24) = W := ⟨_, rfl⟩
  obtain ⟨g1, s1⟩ : ∃ g, W1.heap.size = g := ⟨_, rfl⟩
  rw [hW1] at b1 X0
  have b2 := alloc_below W1 (.cells #[.int .i64 z, .int .i64 u] 24)
  have X1 := heap_alloc_new W1 (.cells #[.int .i64 z, .int .i64 u] 24)
  obtain ⟨W2, hW2⟩ : ∃ W, W1.alloc (.cells #[.int .i64 z, .int .i64 u] 24) = W := ⟨_, rfl⟩
  rw [hW2] at b2 X1
  rw [s1] at X1
  have bb : Below w.heap.size w W2 := below_step b1 b2
  have Y0 := heap_kept X0 b2
  have HCC : Hid (∀ W, Below W2.heap.size W2 W → (fun w' : World => (w'.cell? ⟨w.heap.size, 0, none⟩ = some (.int .i64 x) ∧ w'.cell? ⟨w.heap.size, 1, none⟩ = some (.int .i64 y)) ∧ w'.cell? ⟨g1, 0, none⟩ = some (.int .i64 z) ∧ w'.cell? ⟨g1, 1, none⟩ = some (.int .i64 u)) W) := fun W hW => by
    have e1 := heap_kept Y0 hW
    have e2 := heap_kept X1 hW
    exact ⟨⟨by simp [World.cell?, e1], by simp [World.cell?, e1]⟩, by simp [World.cell?, e2], by simp [World.cell?, e2]⟩
  have HBW : Hid (∀ W, Below W2.heap.size W2 W → Below w.heap.size w W) := fun W hW => below_step bb hW
  have HPW : Hid (∀ W, Below W2.heap.size W2 W → PairsAre W (.slice a ps.length c) ps) := fun W hW => (unhide HP0).below (below_step bb hW)
  have HTB := hide (tab_below htab bb)
  by_cases hlen : 30 < ps.length
  · have e1 : (30 : Int) < (ps.length : Int) := by omega
    have HBB := hide bb
    clear h3 hI b1 b2 bb X0 X1 Y0 HCC HBW HPW HTB htab hx hy hz hu
    go_enter Tryd.func3, Tryd.ntmps3
    go_wp2
    go_ret
    exact ⟨rfl, unhide HBB⟩
  have e1 : ¬ (30 : Int) < (ps.length : Int) := by omega
  have KKe : KK = 1099511627776 := rfl
  have HPL : Hid (ps.length ≤ 1099511627776) := by show _ ≤ _; omega
  have hql : (pqs ps).length = ps.length := pqs_length ps
  have HQS : Hid (∀ j, j < (pqs ps).length → RS (pqs ps)[j]! 1) := by
    show ∀ j, _
    intro j hj
    rw [hql] at hj
    have e : (pqs ps)[j]! = pq ps[j]! := by
      rw [getElem!_pos (pqs ps) j (by rw [hql]; exact hj), getElem!_pos ps j hj]
      simp [pqs]
    rw [e]
    exact pq_RS (hI j hj).1 (hI j hj).2
  have HRA : Hid (RS (pq (x, y)) 1) := pq_RS hx hy
  have HRB : Hid (RS (pq (z, u)) 1) := pq_RS hz hu
  have HLN : Hid ((pqs ps).length ≤ 1000) := by show _ ≤ _; omega
  have HK2 : Hid (2000 ≤ KK) := by show _ ≤ _; omega
  have HFA : Hid (∀ W, Calls Tryd.prog 6 #[.agg #[.int .i64 x, .int .i64 y]] W fun e w' => ∃ v, e = .returned v ∧ RatIs w' v (pq (x, y)) ∧ Below W.heap.size W w') := fun W => f_any x y hx.1 hx.2 hy.1 hy.2 W
  have HFB : Hid (∀ W, Calls Tryd.prog 6 #[.agg #[.int .i64 z, .int .i64 u]] W fun e w' => ∃ v, e = .returned v ∧ RatIs w' v (pq (z, u)) ∧ Below W.heap.size W w') := fun W => f_any z u hz.1 hz.2 hu.1 hu.2 W
  have HNW : Hid (∀ v1 v2 v3 W, LawIs W v1 (pqs ps) → RatIs W v2 (pq (x, y)) → RatIs W v3 (pq (z, u)) → Calls Tryd.prog 4 #[v1, v2, v3] W fun e w' => ∃ x', e = .returned x' ∧ NwAt (pqs ps) (pq (x, y)) (pq (z, u)) w' x' ∧ Below W.heap.size W w') := fun v1 v2 v3 W k1 k2 k3 => news_at v1 v2 v3 _ _ _ W k1 k2 k3 (unhide HQS) (unhide HRA) (unhide HRB) (unhide HLN)
  have HCK : Hid (ncode (pqs ps) (pq (x, y)) (pq (z, u)) = 0 → chk (pqs ps) = 0) := fun h => by
    unfold ncode at h
    by_cases c : chk (pqs ps) = 0
    · exact c
    · rw [if_pos c] at h; exact absurd h c
  have HPI : Hid (∀ W, Calls Tryd.prog 10 #[.int .i64 other, .int .i64 101] W fun e w' => ∃ m : Nat, e = .returned (.int .i64 (m : Int)) ∧ m ≤ 100 ∧ Below W.heap.size W w') := fun W => by
    refine (pick_any other 101 (by decide) (by decide) W).mono ?_
    rintro e w' ⟨m, rfl, hm, hw⟩
    exact ⟨m, rfl, by omega, by rw [hw]; exact Below.refl _ _⟩
  have HLO : Hid (∀ v1 v2 v3 v4 W, (∃ m : Nat, v4 = .int .i64 (m : Int) ∧ m ≤ 100) → LawIs W v1 (pqs ps) → RatIs W v2 (pq (x, y)) → RatIs W v3 (pq (z, u)) → chk (pqs ps) = 0 → Calls Tryd.prog 9 #[v1, v2, v3, v4] W fun e w' => ∃ (m' : Nat) (v : Value), e = .returned (.tuple #[v, .nilIface]) ∧ m' ≤ 100 ∧ RatIs w' v (lossV (pqs ps) (pq (x, y)) (pq (z, u)) m') ∧ Below W.heap.size W w') := fun v1 v2 v3 v4 W hm k1 k2 k3 kc => by
    obtain ⟨m, rfl, hm⟩ := hm
    refine (loss_any v1 v2 v3 _ _ _ m W k1 k2 k3 (unhide HQS) (unhide HRA) (unhide HRB) kc hm).mono ?_
    rintro e w' ⟨v, rfl, hv, hb⟩
    exact ⟨m, v, rfl, hm, hv, hb⟩
  obtain ⟨v, hv⟩ : ∃ v, Value.slice a ps.length c = v := ⟨_, rfl⟩
  have HV := hide hv
  rw [hv] at HPW HP0
  clear h3 hI b1 b2 bb X0 X1 Y0 htab hx hy hz hu hql KKe HP0 hv
  go_enter Tryd.func3, Tryd.ntmps3
  go_wp2_with fail
  clear hW1 hW2 s1
  simp only [unhide HV]
  refine wp_region_hold (fun w' : World => (w'.cell? ⟨w.heap.size, 0, none⟩ = some (.int .i64 x) ∧ w'.cell? ⟨w.heap.size, 1, none⟩ = some (.int .i64 y)) ∧ w'.cell? ⟨g1, 0, none⟩ = some (.int .i64 z) ∧ w'.cell? ⟨g1, 1, none⟩ = some (.int .i64 u)) (by kernel_rfl) ?_
  have bd0 : Below W2.heap.size W2 W2.drew := (Below.refl _ _).drew
  obtain ⟨Wx, hWx⟩ : ∃ W, W2.drew = W := ⟨_, rfl⟩
  rw [hWx] at bd0 ⊢
  have hC0 : (fun w' : World => (w'.cell? ⟨w.heap.size, 0, none⟩ = some (.int .i64 x) ∧ w'.cell? ⟨w.heap.size, 1, none⟩ = some (.int .i64 y)) ∧ w'.cell? ⟨g1, 0, none⟩ = some (.int .i64 z) ∧ w'.cell? ⟨g1, 1, none⟩ = some (.int .i64 u)) Wx := unhide HCC _ bd0
  have KP1 : Hid (∀ (w w' : World) (s : Value), (fun (w : World) (s : Value) => LawIs w s (pqs ps)) w s → Below w.heap.size w w' → (fun (w : World) (s : Value) => LawIs w s (pqs ps)) w' s) := fun _ _ _ h hb => LawIs.below h hb
  have KP2 : Hid (∀ (w w' : World) (s : Value), (fun (w : World) (s : Value) => RatIs w s (pq (x, y))) w s → Below w.heap.size w w' → (fun (w : World) (s : Value) => RatIs w s (pq (x, y))) w' s) := fun _ _ _ h hb => RatIs.below h hb
  have KP3 : Hid (∀ (w w' : World) (s : Value), (fun (w : World) (s : Value) => RatIs w s (pq (z, u))) w s → Below w.heap.size w w' → (fun (w : World) (s : Value) => RatIs w s (pq (z, u))) w' s) := fun _ _ _ h hb => RatIs.below h hb
  have KP4 : Hid (∀ (w w' : World) (s : Value), (fun (w : World) (s : Value) => NwAt (pqs ps) (pq (x, y)) (pq (z, u)) w s) w s → Below w.heap.size w w' → (fun (w : World) (s : Value) => NwAt (pqs ps) (pq (x, y)) (pq (z, u)) w s) w' s) := fun _ _ _ h hb => NwAt.keep h hb
  refine wpHold_take (i := 0) (v := ?_) rfl (by kernel_rfl) (by kernel_rfl) (by kernel_rfl) (fun _ _ _ h => h) (Or.inl ⟨by rfl, ?_⟩) hC0 ?_
  rotate_left
  · intro w hSw; clear hSw; go_simp; (try with_reducible rfl)
  (try simp only [List.getElem_toArray, List.getElem_cons_succ, List.getElem_cons_zero])
  (try simp only [Act.put, List.setIfInBounds_toArray, List.set_cons_zero, List.set_cons_succ])
  refine wpHold_take (i := 2) (v := ?_) rfl (by kernel_rfl) (by kernel_rfl) (by kernel_rfl) (fun _ _ _ h => h) (Or.inl ⟨by rfl, ?_⟩) hC0 ?_
  rotate_left
  · intro w hSw; (try dsimp only at hSw); obtain ⟨⟨z0, z1⟩, z2, z3⟩ := hSw; go_simp; (try with_reducible rfl)
  (try simp only [List.getElem_toArray, List.getElem_cons_succ, List.getElem_cons_zero])
  (try simp only [Act.put, List.setIfInBounds_toArray, List.set_cons_zero, List.set_cons_succ])
  refine wpHold_take (i := 4) (v := ?_) rfl (by kernel_rfl) (by kernel_rfl) (by kernel_rfl) (fun _ _ _ h => h) (Or.inl ⟨by rfl, ?_⟩) hC0 ?_
  rotate_left
  · intro w hSw; (try dsimp only at hSw); obtain ⟨⟨z0, z1⟩, z2, z3⟩ := hSw; go_simp; (try with_reducible rfl)
  (try simp only [List.getElem_toArray, List.getElem_cons_succ, List.getElem_cons_zero])
  (try simp only [Act.put, List.setIfInBounds_toArray, List.set_cons_zero, List.set_cons_succ])
  refine wpHold_listed (n := 12) (L' := (fun nc nl => #[true, decide (1 ≤ nc), true, decide (2 ≤ nc), true, decide (3 ≤ nc), decide (4 ≤ nc), false, false, false, false, nl, false, false, false]) 0 false) (by kernel_rfl) (by kernel_rfl) ?_
  refine wpHold_name (fun a0 ha0 => ?_)
  refine chain_fin 4 (fun nc nl => #[true, decide (1 ≤ nc), true, decide (2 ≤ nc), true, decide (3 ≤ nc), decide (4 ≤ nc), false, false, false, false, nl, false, false, false]) (fun nc => match nc with | 0 => 1 | 1 => 3 | 2 => 5 | _ => 6) 11 7 (fun nc nl na W => ∃ s1 s2 s3 s4 s5, na = ((((a0.put (some 19) s1).put (some 21) s2).put (some 23) s3).put (some 24) s4).put (some 10) s5 ∧ Nj4 (fun (w : World) (s : Value) => LawIs w s (pqs ps)) (fun (w : World) (s : Value) => RatIs w s (pq (x, y))) (fun (w : World) (s : Value) => RatIs w s (pq (z, u))) (fun (w : World) (s : Value) => NwAt (pqs ps) (pq (x, y)) (pq (z, u)) w s) Wx nc nl W s1 s2 s3 s4 s5) ?_ ?_ ?_ ?_ ?_ ?_ ?_ 5 0 false (by omega) (by rfl) _ _ ⟨undef, undef, undef, undef, undef, by subst ha0; rfl, Below.refl _ _, fun h => absurd h (by decide), fun h => absurd h (by decide), fun h => absurd h (by decide), fun h => absurd h (by decide), fun h => by cases h⟩
  · clear ha0
    intro nc nl hnc
    match nc, hnc with
    | 0, _ => cases nl <;> (show (_ : Bool) = _; kernel_rfl)
    | 1, _ => cases nl <;> (show (_ : Bool) = _; kernel_rfl)
    | 2, _ => cases nl <;> (show (_ : Bool) = _; kernel_rfl)
    | 3, _ => cases nl <;> (show (_ : Bool) = _; kernel_rfl)
  · clear ha0
    intro nc nl hnc
    match nc, hnc with
    | 0, _ => cases nl <;> (show (_ : Bool) = _; kernel_rfl)
    | 1, _ => cases nl <;> (show (_ : Bool) = _; kernel_rfl)
    | 2, _ => cases nl <;> (show (_ : Bool) = _; kernel_rfl)
    | 3, _ => cases nl <;> (show (_ : Bool) = _; kernel_rfl)
  · clear ha0
    intro nc nl hnc
    match nc, hnc with
    | 0, _ => rfl
    | 1, _ => rfl
    | 2, _ => rfl
    | 3, _ => rfl
  · clear ha0
    intro nc hnc
    match nc, hnc with
    | 0, _ => rfl
    | 1, _ => rfl
    | 2, _ => rfl
    | 3, _ => rfl
  · rintro nc nl na wv hnc ⟨s1, s2, s3, s4, s5, rfl, J⟩
    subst ha0
    match nc, hnc, J with
    | 0, _, J =>
      refine wpOp_step rfl (fun K hK => ?_)
      (try simp only [Act.put, List.setIfInBounds_toArray, List.set_cons_zero, List.set_cons_succ] at hK ⊢)
      (try simp only [List.getElem_toArray, List.getElem_cons_succ, List.getElem_cons_zero])
      go_simp
      refine (law_any v ps _ (unhide HPW _ (below_step bd0 J.bl)) (unhide HPL)).mono ?_
      rintro e wz ⟨v_, rfl, hv, hb⟩
      exact hK _ _ ⟨unhide HCC _ (below_step bd0 (below_step J.bl hb)), v_, s2, s3, s4, s5, rfl, below_step J.bl hb, fun _ => hv, fun h => absurd h (by decide), fun h => absurd h (by decide), fun h => absurd h (by decide), fun h => by
        obtain ⟨b, e1, e2, e3⟩ := J.al h
        exact ⟨b, e1, e2.keep hb, e3⟩⟩
    | 1, _, J =>
      refine wpOp_step rfl (fun K hK => ?_)
      (try simp only [Act.put, List.setIfInBounds_toArray, List.set_cons_zero, List.set_cons_succ] at hK ⊢)
      (try simp only [List.getElem_toArray, List.getElem_cons_succ, List.getElem_cons_zero])
      go_simp
      refine (unhide HFA _).mono ?_
      rintro e wz ⟨v_, rfl, hv, hb⟩
      exact hK _ _ ⟨unhide HCC _ (below_step bd0 (below_step J.bl hb)), s1, v_, s3, s4, s5, rfl, below_step J.bl hb, fun _ => unhide KP1 _ _ _ (J.r1 (by decide)) hb, fun _ => hv, fun h => absurd h (by decide), fun h => absurd h (by decide), fun h => by
        obtain ⟨b, e1, e2, e3⟩ := J.al h
        exact ⟨b, e1, e2.keep hb, e3⟩⟩
    | 2, _, J =>
      refine wpOp_step rfl (fun K hK => ?_)
      (try simp only [Act.put, List.setIfInBounds_toArray, List.set_cons_zero, List.set_cons_succ] at hK ⊢)
      (try simp only [List.getElem_toArray, List.getElem_cons_succ, List.getElem_cons_zero])
      go_simp
      refine (unhide HFB _).mono ?_
      rintro e wz ⟨v_, rfl, hv, hb⟩
      exact hK _ _ ⟨unhide HCC _ (below_step bd0 (below_step J.bl hb)), s1, s2, v_, s4, s5, rfl, below_step J.bl hb, fun _ => unhide KP1 _ _ _ (J.r1 (by decide)) hb, fun _ => unhide KP2 _ _ _ (J.r2 (by decide)) hb, fun _ => hv, fun h => absurd h (by decide), fun h => by
        obtain ⟨b, e1, e2, e3⟩ := J.al h
        exact ⟨b, e1, e2.keep hb, e3⟩⟩
    | 3, _, J =>
      refine wpOp_step rfl (fun K hK => ?_)
      (try simp only [Act.put, List.setIfInBounds_toArray, List.set_cons_zero, List.set_cons_succ] at hK ⊢)
      (try simp only [List.getElem_toArray, List.getElem_cons_succ, List.getElem_cons_zero])
      go_simp
      refine (unhide HNW _ _ _ _ (J.r1 (by decide)) (J.r2 (by decide)) (J.r3 (by decide))).mono ?_
      rintro e wz ⟨v_, rfl, hv, hb⟩
      exact hK _ _ ⟨unhide HCC _ (below_step bd0 (below_step J.bl hb)), s1, s2, s3, v_, s5, rfl, below_step J.bl hb, fun _ => unhide KP1 _ _ _ (J.r1 (by decide)) hb, fun _ => unhide KP2 _ _ _ (J.r2 (by decide)) hb, fun _ => unhide KP3 _ _ _ (J.r3 (by decide)) hb, fun _ => hv, fun h => by
        obtain ⟨b, e1, e2, e3⟩ := J.al h
        exact ⟨b, e1, e2.keep hb, e3⟩⟩
  · rintro nc na wv hnc ⟨s1, s2, s3, s4, s5, rfl, J⟩
    subst ha0
    refine wpOp_step rfl (fun K hK => ?_)
    (try simp only [Act.put, List.setIfInBounds_toArray, List.set_cons_zero, List.set_cons_succ] at hK ⊢)
    (try simp only [List.getElem_toArray, List.getElem_cons_succ, List.getElem_cons_zero])
    go_simp
    have hb := alloc_below wv (.cells #[.bool false, .slice none 0 0, .slice none 0 0] 28)
    exact hK _ _ ⟨unhide HCC _ (below_step bd0 (below_step J.bl hb)), s1, s2, s3, s4, .pointer (some ⟨wv.heap.size, 0, none⟩), rfl, below_step J.bl hb, fun h => unhide KP1 _ _ _ (J.r1 h) hb, fun h => unhide KP2 _ _ _ (J.r2 h) hb, fun h => unhide KP3 _ _ _ (J.r3 h) hb, fun h => unhide KP4 _ _ _ (J.r4 h) hb, fun _ => ⟨wv.heap.size, rfl, BoxIs.new (t := zTri) (rat_zero _), J.bl.size⟩⟩
  · rintro nl na wv ⟨s1, s2, s3, s4, s5, rfl, J⟩
    subst ha0
    obtain ⟨n_, tc, ev_, rfl, hrel0⟩ := J.r4 (by decide)
    obtain ⟨qc, r0, hrel⟩ : ∃ qc, RatIs wv tc.val qc ∧ ((ncode (pqs ps) (pq (x, y)) (pq (z, u)) ≠ 0 ∧ n_ = 0 ∧ ev_ = .iface 45 (.int .i64 (ncode (pqs ps) (pq (x, y)) (pq (z, u)))) ∧ qc = 0) ∨ (ncode (pqs ps) (pq (x, y)) (pq (z, u)) = 0 ∧ ev_ = .nilIface ∧ ∃ m : Nat, n_ = (m : Int) ∧ NewsIs (pqs ps) (pq (x, y)) (pq (z, u)) m ∧ qc = lossV (pqs ps) (pq (x, y)) (pq (z, u)) m)) := by
      rcases hrel0 with ⟨h1, h2, h3, h4⟩ | ⟨h1, h2, m, h3, h4, h5⟩
      · exact ⟨_, h3, Or.inl ⟨h1, h2, h4, rfl⟩⟩
      · exact ⟨_, h5, Or.inr ⟨h1, h2, m, h3, h4, rfl⟩⟩
    clear hrel0
    simp only [Tri.val]
    (try simp only [Act.put, List.setIfInBounds_toArray, List.set_cons_zero, List.set_cons_succ])
    have hCv : (fun w' : World => (w'.cell? ⟨w.heap.size, 0, none⟩ = some (.int .i64 x) ∧ w'.cell? ⟨w.heap.size, 1, none⟩ = some (.int .i64 y)) ∧ w'.cell? ⟨g1, 0, none⟩ = some (.int .i64 z) ∧ w'.cell? ⟨g1, 1, none⟩ = some (.int .i64 u)) wv := unhide HCC _ (below_step bd0 J.bl)
    clear hC0
    cases nl with
    | true =>
      obtain ⟨bc, rfl, B10, e10⟩ := J.al rfl
      refine wpHold_take (i := 7) (v := ?_) rfl (by kernel_rfl) (by kernel_rfl) (by kernel_rfl) (fun _ _ _ h => h) (Or.inl ⟨by rfl, ?_⟩) hCv ?_
      rotate_left
      · intro w hSw; clear hSw; go_simp; (try with_reducible rfl)
      (try simp only [List.getElem_toArray, List.getElem_cons_succ, List.getElem_cons_zero])
      (try simp only [Act.put, List.setIfInBounds_toArray, List.set_cons_zero, List.set_cons_succ])
      refine wpHold_take (i := 8) (v := ?_) rfl (by kernel_rfl) (by kernel_rfl) (by kernel_rfl) (fun _ _ _ h => h) (Or.inl ⟨by rfl, ?_⟩) hCv ?_
      rotate_left
      · intro w hSw; clear hSw; go_simp; (try with_reducible rfl)
      (try simp only [List.getElem_toArray, List.getElem_cons_succ, List.getElem_cons_zero])
      (try simp only [Act.put, List.setIfInBounds_toArray, List.set_cons_zero, List.set_cons_succ])
      refine wpHold_take (i := 9) (v := ?_) rfl (by kernel_rfl) (by kernel_rfl) (by kernel_rfl) (fun _ _ _ h => h) (Or.inl ⟨by rfl, ?_⟩) hCv ?_
      rotate_left
      · intro w hSw; clear hSw; go_simp; (try with_reducible rfl)
      (try simp only [List.getElem_toArray, List.getElem_cons_succ, List.getElem_cons_zero])
      (try simp only [Act.put, List.setIfInBounds_toArray, List.set_cons_zero, List.set_cons_succ])
      refine wpHold_take (i := 10) (v := ?_) rfl (by kernel_rfl) (by kernel_rfl) (by kernel_rfl) (fun _ _ _ h => h) (Or.inl ⟨by rfl, ?_⟩) hCv ?_
      rotate_left
      · intro w hSw; clear hSw; go_simp; (try with_reducible rfl)
      (try simp only [List.getElem_toArray, List.getElem_cons_succ, List.getElem_cons_zero])
      (try simp only [Act.put, List.setIfInBounds_toArray, List.set_cons_zero, List.set_cons_succ])
      have ⟨l0, l1, l2⟩ := B10.free
      have ⟨k0, k1, k2⟩ := B10.cells _ (Below.refl _ _)
      have HJB := hide (below_step bd0 J.bl)
      have NB := B10.set r0
      have e10' : W2.heap.size ≤ bc := Nat.le_trans bd0.size e10
      have YB := (((below_step bd0 J.bl).setCell (p := ⟨bc, 0, none⟩) e10' (.bool tc.s)).setCell (p := ⟨bc, 1, none⟩) e10' (.slice tc.a1 tc.n1 tc.c1)).setCell (p := ⟨bc, 2, none⟩) e10' (.slice tc.a2 tc.n2 tc.c2)
      have HG_bc := hide e10'
      have hCn : (fun w' : World => (w'.cell? ⟨w.heap.size, 0, none⟩ = some (.int .i64 x) ∧ w'.cell? ⟨w.heap.size, 1, none⟩ = some (.int .i64 y)) ∧ w'.cell? ⟨g1, 0, none⟩ = some (.int .i64 z) ∧ w'.cell? ⟨g1, 1, none⟩ = some (.int .i64 u)) _ := unhide HCC _ YB
      obtain ⟨Wbc, hWy⟩ : ∃ W, ((wv.setCell ⟨bc, 0, none⟩ (.bool tc.s)).setCell ⟨bc, 1, none⟩ (.slice tc.a1 tc.n1 tc.c1)).setCell ⟨bc, 2, none⟩ (.slice tc.a2 tc.n2 tc.c2) = W := ⟨_, rfl⟩
      rw [hWy] at NB YB hCn
      have HX_bc := hide NB
      have HY_bc := hide YB
      clear J B10 YB NB e10' hCv
      refine wpHold_one (k := 12) (by kernel_rfl) rfl (fun K hK => ?_)
      (try simp only [List.getElem_toArray, List.getElem_cons_succ, List.getElem_cons_zero])
      go_simp
      refine hK.out _ _ (unhide HCC _ (unhide HJB)) ?_
      clear hK K
      (try simp only [Act.put, List.setIfInBounds_toArray, List.set_cons_zero, List.set_cons_succ])
      refine wpHold_one (k := 13) (by kernel_rfl) rfl (fun K hK => ?_)
      (try simp only [List.getElem_toArray, List.getElem_cons_succ, List.getElem_cons_zero])
      go_simp
      refine hK.out _ _ hCn ?_
      clear hK K
      (try simp only [Act.put, List.setIfInBounds_toArray, List.set_cons_zero, List.set_cons_succ])
      refine wpHold_one (k := 14) (by kernel_rfl) rfl (fun K hK => ?_)
      (try simp only [List.getElem_toArray, List.getElem_cons_succ, List.getElem_cons_zero])
      go_simp
      refine hK.out _ _ hCn ?_
      clear hK K
      (try simp only [Act.put, List.setIfInBounds_toArray, List.set_cons_zero, List.set_cons_succ])
      refine wpHold_done (by kernel_rfl) ?_ _
      clear hCn l0 l1 l2 k0 k1 k2 hWy e10 bd0 hWx r0 HJB KP1 KP2 KP3 KP4
      have hb0 := unhide HY_bc
      have HT3 := hide (tab_below (unhide HTB) hb0)
      have C1 := hide (sold_any Wbc (unhide HT3))
      have HX1 := hide (unhide HX_bc)
      have HB1 := hide (unhide HBW _ hb0)
      have HQ1 : Hid (∀ W, Below Wbc.heap.size Wbc W → (fun w' : World => (w'.cell? ⟨w.heap.size, 0, none⟩ = some (.int .i64 x) ∧ w'.cell? ⟨w.heap.size, 1, none⟩ = some (.int .i64 y)) ∧ w'.cell? ⟨g1, 0, none⟩ = some (.int .i64 z) ∧ w'.cell? ⟨g1, 1, none⟩ = some (.int .i64 u)) W ∧ PairsAre W v ps ∧ Tab W) := fun W hW => ⟨unhide HCC W (below_step hb0 hW), (unhide HPW _ (below_step hb0 hW)), tab_below (unhide HT3) hW⟩
      clear hb0 HX_bc HY_bc HG_bc
      go_wp2_with fail
      refine (unhide C1).mono ?_
      rintro e w5 ⟨rfl, hb5⟩
      clear C1
      rcases hrel with ⟨hc, rfl, rfl, hq0⟩ | ⟨hc, rfl, m, rfl, hn, hql⟩
      · have C2 := hide (sold_any w5 (unhide HQ1 _ hb5).2.2)
        obtain ⟨kc, hkc⟩ : ∃ k, ncode (pqs ps) (pq (x, y)) (pq (z, u)) = k := ⟨_, rfl⟩
        rw [hkc] at hc
        have q5 : (kc == 0) = false := by simpa using hc
        rw [hkc]
        have HB5 := hide hb5
        rw [hq0] at HX1
        clear hkc hb5
        go_wp2_with fail
        refine (unhide C2).mono ?_
        rintro e w6 ⟨rfl, hb6⟩
        have hb56 := below_step (unhide HB5) hb6
        have C3 := hide (sign_any _ _ w6 ((unhide HX1).keep hb56).2)
        obtain ⟨c0, c1, c2⟩ := (unhide HX1).cells _ hb56
        have HB6 := hide (below_step (unhide HB1) hb56)
        simp only [Tri.val] at C3
        rw [show (0 : Rat).num.sign = 0 from rfl] at C3
        clear C2 hb6 hb56
        go_wp2_with fail
        refine (unhide C3).mono ?_
        rintro e w7 ⟨rfl, hb7⟩
        have HB7 := hide (below_step (unhide HB6) hb7)
        clear hb7 C3 c0 c1 c2
        go_wp2
        go_ret
        exact ⟨rfl, unhide HB7⟩
      · rw [hql] at HX1
        have HLE : Hid (∀ k, lossV (pqs ps) (pq (x, y)) (pq (z, u)) m ≤ lossV (pqs ps) (pq (x, y)) (pq (z, u)) k) := fun k => news_least hc hn k
        have hck := unhide HCK hc
        have hm100 := hn.le hck
        have HSC := hide (sm_RS (lossV_RS (unhide HQS) (chk_zero hck).2.1 (unhide HRA) (unhide HRB) hm100) (unhide HK2))
        have HCH := hide hck
        have HXC : Hid (∀ W, Below w5.heap.size w5 W → BoxIs W bc tc (lossV (pqs ps) (pq (x, y)) (pq (z, u)) m)) := fun W hW => (unhide HX1).keep (below_step hb5 hW)
        have HBX : Hid (∀ W, Below w5.heap.size w5 W → Below w.heap.size w W) := fun W hW => below_step (unhide HB1) (below_step hb5 hW)
        have HC5 : Hid (∀ W, Below w5.heap.size w5 W → (fun w' : World => (w'.cell? ⟨w.heap.size, 0, none⟩ = some (.int .i64 x) ∧ w'.cell? ⟨w.heap.size, 1, none⟩ = some (.int .i64 y)) ∧ w'.cell? ⟨g1, 0, none⟩ = some (.int .i64 z) ∧ w'.cell? ⟨g1, 1, none⟩ = some (.int .i64 u)) W) := fun W hW => (unhide HQ1 W (below_step hb5 hW)).1
        have HP5 : Hid (∀ W, Below w5.heap.size w5 W → PairsAre W v ps) := fun W hW => (unhide HQ1 W (below_step hb5 hW)).2.1
        clear hb5 hn hck hm100 HB1 HQ1 HX1 hql hc
        go_wp2_with fail
        refine wp_region_hold (fun w' : World => (w'.cell? ⟨w.heap.size, 0, none⟩ = some (.int .i64 x) ∧ w'.cell? ⟨w.heap.size, 1, none⟩ = some (.int .i64 y)) ∧ w'.cell? ⟨g1, 0, none⟩ = some (.int .i64 z) ∧ w'.cell? ⟨g1, 1, none⟩ = some (.int .i64 u)) (by kernel_rfl) ?_
        have bd0 : Below w5.heap.size w5 w5.drew := (Below.refl _ _).drew
        obtain ⟨Wx, hWx⟩ : ∃ W, w5.drew = W := ⟨_, rfl⟩
        rw [hWx] at bd0 ⊢
        have hC0 : (fun w' : World => (w'.cell? ⟨w.heap.size, 0, none⟩ = some (.int .i64 x) ∧ w'.cell? ⟨w.heap.size, 1, none⟩ = some (.int .i64 y)) ∧ w'.cell? ⟨g1, 0, none⟩ = some (.int .i64 z) ∧ w'.cell? ⟨g1, 1, none⟩ = some (.int .i64 u)) Wx := unhide HC5 _ bd0
        have KP1 : Hid (∀ (w w' : World) (s : Value), (fun (w : World) (s : Value) => LawIs w s (pqs ps)) w s → Below w.heap.size w w' → (fun (w : World) (s : Value) => LawIs w s (pqs ps)) w' s) := fun _ _ _ h hb => LawIs.below h hb
        have KP2 : Hid (∀ (w w' : World) (s : Value), (fun (w : World) (s : Value) => RatIs w s (pq (x, y))) w s → Below w.heap.size w w' → (fun (w : World) (s : Value) => RatIs w s (pq (x, y))) w' s) := fun _ _ _ h hb => RatIs.below h hb
        have KP3 : Hid (∀ (w w' : World) (s : Value), (fun (w : World) (s : Value) => RatIs w s (pq (z, u))) w s → Below w.heap.size w w' → (fun (w : World) (s : Value) => RatIs w s (pq (z, u))) w' s) := fun _ _ _ h hb => RatIs.below h hb
        have KP4 : Hid (∀ (w w' : World) (s : Value), (fun (_ : World) (s : Value) => ∃ m : Nat, s = .int .i64 (m : Int) ∧ m ≤ 100) w s → Below w.heap.size w w' → (fun (_ : World) (s : Value) => ∃ m : Nat, s = .int .i64 (m : Int) ∧ m ≤ 100) w' s) := fun _ _ _ h _ => h
        have KP5 : Hid (∀ (w w' : World) (s : Value), (fun (w : World) (s : Value) => ∃ (m : Nat) (v : Value), m ≤ 100 ∧ s = .tuple #[v, .nilIface] ∧ RatIs w v (lossV (pqs ps) (pq (x, y)) (pq (z, u)) m)) w s → Below w.heap.size w w' → (fun (w : World) (s : Value) => ∃ (m : Nat) (v : Value), m ≤ 100 ∧ s = .tuple #[v, .nilIface] ∧ RatIs w v (lossV (pqs ps) (pq (x, y)) (pq (z, u)) m)) w' s) := fun _ _ _ h hb => by obtain ⟨m, v, h1, h2, h3⟩ := h; exact ⟨m, v, h1, h2, h3.below hb⟩
        refine wpHold_take (i := 0) (v := ?_) rfl (by kernel_rfl) (by kernel_rfl) (by kernel_rfl) (fun _ _ _ h => h) (Or.inl ⟨by rfl, ?_⟩) hC0 ?_
        rotate_left
        · intro w hSw; clear hSw; go_simp; (try with_reducible rfl)
        (try simp only [List.getElem_toArray, List.getElem_cons_succ, List.getElem_cons_zero])
        (try simp only [Act.put, List.setIfInBounds_toArray, List.set_cons_zero, List.set_cons_succ])
        refine wpHold_take (i := 2) (v := ?_) rfl (by kernel_rfl) (by kernel_rfl) (by kernel_rfl) (fun _ _ _ h => h) (Or.inl ⟨by rfl, ?_⟩) hC0 ?_
        rotate_left
        · intro w hSw; (try dsimp only at hSw); obtain ⟨⟨z0, z1⟩, z2, z3⟩ := hSw; go_simp; (try with_reducible rfl)
        (try simp only [List.getElem_toArray, List.getElem_cons_succ, List.getElem_cons_zero])
        (try simp only [Act.put, List.setIfInBounds_toArray, List.set_cons_zero, List.set_cons_succ])
        refine wpHold_take (i := 4) (v := ?_) rfl (by kernel_rfl) (by kernel_rfl) (by kernel_rfl) (fun _ _ _ h => h) (Or.inl ⟨by rfl, ?_⟩) hC0 ?_
        rotate_left
        · intro w hSw; (try dsimp only at hSw); obtain ⟨⟨z0, z1⟩, z2, z3⟩ := hSw; go_simp; (try with_reducible rfl)
        (try simp only [List.getElem_toArray, List.getElem_cons_succ, List.getElem_cons_zero])
        (try simp only [Act.put, List.setIfInBounds_toArray, List.set_cons_zero, List.set_cons_succ])
        refine wpHold_take (i := 6) (v := ?_) rfl (by kernel_rfl) (by kernel_rfl) (by kernel_rfl) (fun _ _ _ h => h) (Or.inl ⟨by rfl, ?_⟩) hC0 ?_
        rotate_left
        · intro w hSw; clear hSw; go_simp; (try with_reducible rfl)
        (try simp only [List.getElem_toArray, List.getElem_cons_succ, List.getElem_cons_zero])
        (try simp only [Act.put, List.setIfInBounds_toArray, List.set_cons_zero, List.set_cons_succ])
        refine wpHold_listed (n := 11) (L' := (fun nc nl => #[true, decide (1 ≤ nc), true, decide (2 ≤ nc), true, decide (3 ≤ nc), true, decide (4 ≤ nc), decide (5 ≤ nc), false, false, false, nl, false, false]) 0 false) (by kernel_rfl) (by kernel_rfl) ?_
        refine wpHold_name (fun a0 ha0 => ?_)
        refine chain_fin 5 (fun nc nl => #[true, decide (1 ≤ nc), true, decide (2 ≤ nc), true, decide (3 ≤ nc), true, decide (4 ≤ nc), decide (5 ≤ nc), false, false, false, nl, false, false]) (fun nc => match nc with | 0 => 1 | 1 => 3 | 2 => 5 | 3 => 7 | _ => 8) 12 5 (fun nc nl na W => ∃ s1 s2 s3 s4 s5 s6, na = (((((a0.put (some 46) s1).put (some 48) s2).put (some 50) s3).put (some 52) s4).put (some 53) s5).put (some 12) s6 ∧ Nj5 (fun (w : World) (s : Value) => LawIs w s (pqs ps)) (fun (w : World) (s : Value) => RatIs w s (pq (x, y))) (fun (w : World) (s : Value) => RatIs w s (pq (z, u))) (fun (_ : World) (s : Value) => ∃ m : Nat, s = .int .i64 (m : Int) ∧ m ≤ 100) (fun (w : World) (s : Value) => ∃ (m : Nat) (v : Value), m ≤ 100 ∧ s = .tuple #[v, .nilIface] ∧ RatIs w v (lossV (pqs ps) (pq (x, y)) (pq (z, u)) m)) Wx nc nl W s1 s2 s3 s4 s5 s6) ?_ ?_ ?_ ?_ ?_ ?_ ?_ 6 0 false (by omega) (by rfl) _ _ ⟨undef, undef, undef, undef, undef, undef, by subst ha0; rfl, Below.refl _ _, fun h => absurd h (by decide), fun h => absurd h (by decide), fun h => absurd h (by decide), fun h => absurd h (by decide), fun h => absurd h (by decide), fun h => by cases h⟩
        · clear ha0
          intro nc nl hnc
          match nc, hnc with
          | 0, _ => cases nl <;> (show (_ : Bool) = _; kernel_rfl)
          | 1, _ => cases nl <;> (show (_ : Bool) = _; kernel_rfl)
          | 2, _ => cases nl <;> (show (_ : Bool) = _; kernel_rfl)
          | 3, _ => cases nl <;> (show (_ : Bool) = _; kernel_rfl)
          | 4, _ => cases nl <;> (show (_ : Bool) = _; kernel_rfl)
        · clear ha0
          intro nc nl hnc
          match nc, hnc with
          | 0, _ => cases nl <;> (show (_ : Bool) = _; kernel_rfl)
          | 1, _ => cases nl <;> (show (_ : Bool) = _; kernel_rfl)
          | 2, _ => cases nl <;> (show (_ : Bool) = _; kernel_rfl)
          | 3, _ => cases nl <;> (show (_ : Bool) = _; kernel_rfl)
          | 4, _ => cases nl <;> (show (_ : Bool) = _; kernel_rfl)
        · clear ha0
          intro nc nl hnc
          match nc, hnc with
          | 0, _ => rfl
          | 1, _ => rfl
          | 2, _ => rfl
          | 3, _ => rfl
          | 4, _ => rfl
        · clear ha0
          intro nc hnc
          match nc, hnc with
          | 0, _ => rfl
          | 1, _ => rfl
          | 2, _ => rfl
          | 3, _ => rfl
          | 4, _ => rfl
        · rintro nc nl na wv hnc ⟨s1, s2, s3, s4, s5, s6, rfl, J⟩
          subst ha0
          match nc, hnc, J with
          | 0, _, J =>
            refine wpOp_step rfl (fun K hK => ?_)
            (try simp only [Act.put, List.setIfInBounds_toArray, List.set_cons_zero, List.set_cons_succ] at hK ⊢)
            (try simp only [List.getElem_toArray, List.getElem_cons_succ, List.getElem_cons_zero])
            go_simp
            refine (law_any v ps _ (unhide HP5 _ (below_step bd0 J.bl)) (unhide HPL)).mono ?_
            rintro e wz ⟨v_, rfl, hv, hb⟩
            exact hK _ _ ⟨unhide HC5 _ (below_step bd0 (below_step J.bl hb)), v_, s2, s3, s4, s5, s6, rfl, below_step J.bl hb, fun _ => hv, fun h => absurd h (by decide), fun h => absurd h (by decide), fun h => absurd h (by decide), fun h => absurd h (by decide), fun h => by
              obtain ⟨b, e1, e2, e3⟩ := J.al h
              exact ⟨b, e1, e2.keep hb, e3⟩⟩
          | 1, _, J =>
            refine wpOp_step rfl (fun K hK => ?_)
            (try simp only [Act.put, List.setIfInBounds_toArray, List.set_cons_zero, List.set_cons_succ] at hK ⊢)
            (try simp only [List.getElem_toArray, List.getElem_cons_succ, List.getElem_cons_zero])
            go_simp
            refine (unhide HFA _).mono ?_
            rintro e wz ⟨v_, rfl, hv, hb⟩
            exact hK _ _ ⟨unhide HC5 _ (below_step bd0 (below_step J.bl hb)), s1, v_, s3, s4, s5, s6, rfl, below_step J.bl hb, fun _ => unhide KP1 _ _ _ (J.r1 (by decide)) hb, fun _ => hv, fun h => absurd h (by decide), fun h => absurd h (by decide), fun h => absurd h (by decide), fun h => by
              obtain ⟨b, e1, e2, e3⟩ := J.al h
              exact ⟨b, e1, e2.keep hb, e3⟩⟩
          | 2, _, J =>
            refine wpOp_step rfl (fun K hK => ?_)
            (try simp only [Act.put, List.setIfInBounds_toArray, List.set_cons_zero, List.set_cons_succ] at hK ⊢)
            (try simp only [List.getElem_toArray, List.getElem_cons_succ, List.getElem_cons_zero])
            go_simp
            refine (unhide HFB _).mono ?_
            rintro e wz ⟨v_, rfl, hv, hb⟩
            exact hK _ _ ⟨unhide HC5 _ (below_step bd0 (below_step J.bl hb)), s1, s2, v_, s4, s5, s6, rfl, below_step J.bl hb, fun _ => unhide KP1 _ _ _ (J.r1 (by decide)) hb, fun _ => unhide KP2 _ _ _ (J.r2 (by decide)) hb, fun _ => hv, fun h => absurd h (by decide), fun h => absurd h (by decide), fun h => by
              obtain ⟨b, e1, e2, e3⟩ := J.al h
              exact ⟨b, e1, e2.keep hb, e3⟩⟩
          | 3, _, J =>
            refine wpOp_step rfl (fun K hK => ?_)
            (try simp only [Act.put, List.setIfInBounds_toArray, List.set_cons_zero, List.set_cons_succ] at hK ⊢)
            (try simp only [List.getElem_toArray, List.getElem_cons_succ, List.getElem_cons_zero])
            go_simp
            refine (unhide HPI _).mono ?_
            rintro e wz ⟨m_, rfl, hm_, hb⟩
            exact hK _ _ ⟨unhide HC5 _ (below_step bd0 (below_step J.bl hb)), s1, s2, s3, .int .i64 (m_ : Int), s5, s6, rfl, below_step J.bl hb, fun _ => unhide KP1 _ _ _ (J.r1 (by decide)) hb, fun _ => unhide KP2 _ _ _ (J.r2 (by decide)) hb, fun _ => unhide KP3 _ _ _ (J.r3 (by decide)) hb, fun _ => ⟨m_, rfl, hm_⟩, fun h => absurd h (by decide), fun h => by
              obtain ⟨b, e1, e2, e3⟩ := J.al h
              exact ⟨b, e1, e2.keep hb, e3⟩⟩
          | 4, _, J =>
            refine wpOp_step rfl (fun K hK => ?_)
            (try simp only [Act.put, List.setIfInBounds_toArray, List.set_cons_zero, List.set_cons_succ] at hK ⊢)
            (try simp only [List.getElem_toArray, List.getElem_cons_succ, List.getElem_cons_zero])
            go_simp
            refine (unhide HLO _ _ _ _ _ (J.r4 (by decide)) (J.r1 (by decide)) (J.r2 (by decide)) (J.r3 (by decide)) (unhide HCH)).mono ?_
            rintro e wz ⟨m_, v_, rfl, hm_, hv, hb⟩
            exact hK _ _ ⟨unhide HC5 _ (below_step bd0 (below_step J.bl hb)), s1, s2, s3, s4, .tuple #[v_, .nilIface], s6, rfl, below_step J.bl hb, fun _ => unhide KP1 _ _ _ (J.r1 (by decide)) hb, fun _ => unhide KP2 _ _ _ (J.r2 (by decide)) hb, fun _ => unhide KP3 _ _ _ (J.r3 (by decide)) hb, fun _ => unhide KP4 _ _ _ (J.r4 (by decide)) hb, fun _ => ⟨m_, v_, hm_, rfl, hv⟩, fun h => by
              obtain ⟨b, e1, e2, e3⟩ := J.al h
              exact ⟨b, e1, e2.keep hb, e3⟩⟩
        · rintro nc na wv hnc ⟨s1, s2, s3, s4, s5, s6, rfl, J⟩
          subst ha0
          refine wpOp_step rfl (fun K hK => ?_)
          (try simp only [Act.put, List.setIfInBounds_toArray, List.set_cons_zero, List.set_cons_succ] at hK ⊢)
          (try simp only [List.getElem_toArray, List.getElem_cons_succ, List.getElem_cons_zero])
          go_simp
          have hb := alloc_below wv (.cells #[.bool false, .slice none 0 0, .slice none 0 0] 28)
          exact hK _ _ ⟨unhide HC5 _ (below_step bd0 (below_step J.bl hb)), s1, s2, s3, s4, s5, .pointer (some ⟨wv.heap.size, 0, none⟩), rfl, below_step J.bl hb, fun h => unhide KP1 _ _ _ (J.r1 h) hb, fun h => unhide KP2 _ _ _ (J.r2 h) hb, fun h => unhide KP3 _ _ _ (J.r3 h) hb, fun h => unhide KP4 _ _ _ (J.r4 h) hb, fun h => unhide KP5 _ _ _ (J.r5 h) hb, fun _ => ⟨wv.heap.size, rfl, BoxIs.new (t := zTri) (rat_zero _), J.bl.size⟩⟩
        · rintro nl na wv ⟨s1, s2, s3, s4, s5, s6, rfl, J⟩
          subst ha0
          obtain ⟨m', v_, hm', rfl, hv_⟩ := J.r5 (by decide)
          obtain ⟨td, rfl, r0⟩ := tri_of hv_
          have HSD := hide (sm_RS (lossV_RS (unhide HQS) (chk_zero (unhide HCH)).2.1 (unhide HRA) (unhide HRB) hm') (unhide HK2))
          clear hm' hv_
          simp only [Tri.val]
          (try simp only [Act.put, List.setIfInBounds_toArray, List.set_cons_zero, List.set_cons_succ])
          have hCv : (fun w' : World => (w'.cell? ⟨w.heap.size, 0, none⟩ = some (.int .i64 x) ∧ w'.cell? ⟨w.heap.size, 1, none⟩ = some (.int .i64 y)) ∧ w'.cell? ⟨g1, 0, none⟩ = some (.int .i64 z) ∧ w'.cell? ⟨g1, 1, none⟩ = some (.int .i64 u)) wv := unhide HC5 _ (below_step bd0 J.bl)
          clear hC0
          cases nl with
          | true =>
            obtain ⟨bd, rfl, B10, e10⟩ := J.al rfl
            refine wpHold_take (i := 9) (v := ?_) rfl (by kernel_rfl) (by kernel_rfl) (by kernel_rfl) (fun _ _ _ h => h) (Or.inl ⟨by rfl, ?_⟩) hCv ?_
            rotate_left
            · intro w hSw; clear hSw; go_simp; (try with_reducible rfl)
            (try simp only [List.getElem_toArray, List.getElem_cons_succ, List.getElem_cons_zero])
            (try simp only [Act.put, List.setIfInBounds_toArray, List.set_cons_zero, List.set_cons_succ])
            refine wpHold_take (i := 10) (v := ?_) rfl (by kernel_rfl) (by kernel_rfl) (by kernel_rfl) (fun _ _ _ h => h) (Or.inl ⟨by rfl, ?_⟩) hCv ?_
            rotate_left
            · intro w hSw; clear hSw; go_simp; (try with_reducible rfl)
            (try simp only [List.getElem_toArray, List.getElem_cons_succ, List.getElem_cons_zero])
            (try simp only [Act.put, List.setIfInBounds_toArray, List.set_cons_zero, List.set_cons_succ])
            refine wpHold_take (i := 11) (v := ?_) rfl (by kernel_rfl) (by kernel_rfl) (by kernel_rfl) (fun _ _ _ h => h) (Or.inl ⟨by rfl, ?_⟩) hCv ?_
            rotate_left
            · intro w hSw; clear hSw; go_simp; (try with_reducible rfl)
            (try simp only [List.getElem_toArray, List.getElem_cons_succ, List.getElem_cons_zero])
            (try simp only [Act.put, List.setIfInBounds_toArray, List.set_cons_zero, List.set_cons_succ])
            have ⟨l0, l1, l2⟩ := B10.free
            have ⟨k0, k1, k2⟩ := B10.cells _ (Below.refl _ _)
            have HJB := hide (below_step bd0 J.bl)
            have NB := B10.set r0
            have e10' : w5.heap.size ≤ bd := Nat.le_trans bd0.size e10
            have YB := (((below_step bd0 J.bl).setCell (p := ⟨bd, 0, none⟩) e10' (.bool td.s)).setCell (p := ⟨bd, 1, none⟩) e10' (.slice td.a1 td.n1 td.c1)).setCell (p := ⟨bd, 2, none⟩) e10' (.slice td.a2 td.n2 td.c2)
            have HG_bd := hide e10'
            have hCn : (fun w' : World => (w'.cell? ⟨w.heap.size, 0, none⟩ = some (.int .i64 x) ∧ w'.cell? ⟨w.heap.size, 1, none⟩ = some (.int .i64 y)) ∧ w'.cell? ⟨g1, 0, none⟩ = some (.int .i64 z) ∧ w'.cell? ⟨g1, 1, none⟩ = some (.int .i64 u)) _ := unhide HC5 _ YB
            obtain ⟨Wbd, hWy⟩ : ∃ W, ((wv.setCell ⟨bd, 0, none⟩ (.bool td.s)).setCell ⟨bd, 1, none⟩ (.slice td.a1 td.n1 td.c1)).setCell ⟨bd, 2, none⟩ (.slice td.a2 td.n2 td.c2) = W := ⟨_, rfl⟩
            rw [hWy] at NB YB hCn
            have HX_bd := hide NB
            have HY_bd := hide YB
            clear J B10 YB NB e10' hCv
            refine wpHold_one (k := 13) (by kernel_rfl) rfl (fun K hK => ?_)
            (try simp only [List.getElem_toArray, List.getElem_cons_succ, List.getElem_cons_zero])
            go_simp
            refine hK.out _ _ hCn ?_
            clear hK K
            (try simp only [Act.put, List.setIfInBounds_toArray, List.set_cons_zero, List.set_cons_succ])
            refine wpHold_one (k := 14) (by kernel_rfl) rfl (fun K hK => ?_)
            (try simp only [List.getElem_toArray, List.getElem_cons_succ, List.getElem_cons_zero])
            go_simp
            refine hK.out _ _ hCn ?_
            clear hK K
            (try simp only [Act.put, List.setIfInBounds_toArray, List.set_cons_zero, List.set_cons_succ])
            refine wpHold_done (by kernel_rfl) ?_ _
            clear hCn l0 l1 l2 k0 k1 k2 hWy e10 bd0 hWx r0 HJB KP1 KP2 KP3 KP4 KP5
            have hb0 := unhide HY_bd
            have X1 := unhide HX_bd
            have X0 := unhide HXC _ hb0
            have HCM := hide (cmpR_any _ _ _ _ Wbd X0.2 X1.2 (unhide HSC).1 (unhide HSD).1 (unhide HSC).2 (unhide HSD).2)
            obtain ⟨sg, hsg⟩ : ∃ s, Wd.sg ((lossV (pqs ps) (pq (x, y)) (pq (z, u)) m).num * (lossV (pqs ps) (pq (x, y)) (pq (z, u)) m').den) ((lossV (pqs ps) (pq (x, y)) (pq (z, u)) m').num * (lossV (pqs ps) (pq (x, y)) (pq (z, u)) m).den) = s := ⟨_, rfl⟩
            rw [hsg] at HCM
            have hle : sg ≤ 0 := by rw [← hsg]; exact cmp_le (unhide HLE m')
            obtain ⟨c0, c1, c2⟩ := X0.cells _ (Below.refl _ _)
            obtain ⟨d0, d1, d2⟩ := X1.cells _ (Below.refl _ _)
            have HYY := hide (unhide HBX _ hb0)
            simp only [Tri.val] at HCM
            clear hb0 X0 X1 HX_bd HY_bd HG_bd hsg
            go_wp2_with fail
            refine (unhide HCM).mono ?_
            rintro e w9 ⟨rfl, hb9⟩
            have HB9 := hide (below_step (unhide HYY) hb9)
            clear hb9 HCM c0 c1 c2 d0 d1 d2
            go_wp2
            go_ret
            exact ⟨rfl, unhide HB9⟩
          | false =>
            refine wpHold_take (i := 9) (v := ?_) rfl (by kernel_rfl) (by kernel_rfl) (by kernel_rfl) (fun _ _ _ h => h) (Or.inl ⟨by rfl, ?_⟩) hCv ?_
            rotate_left
            · intro w hSw; clear hSw; go_simp; (try with_reducible rfl)
            (try simp only [List.getElem_toArray, List.getElem_cons_succ, List.getElem_cons_zero])
            (try simp only [Act.put, List.setIfInBounds_toArray, List.set_cons_zero, List.set_cons_succ])
            refine wpHold_take (i := 10) (v := ?_) rfl (by kernel_rfl) (by kernel_rfl) (by kernel_rfl) (fun _ _ _ h => h) (Or.inl ⟨by rfl, ?_⟩) hCv ?_
            rotate_left
            · intro w hSw; clear hSw; go_simp; (try with_reducible rfl)
            (try simp only [List.getElem_toArray, List.getElem_cons_succ, List.getElem_cons_zero])
            (try simp only [Act.put, List.setIfInBounds_toArray, List.set_cons_zero, List.set_cons_succ])
            refine wpHold_take (i := 11) (v := ?_) rfl (by kernel_rfl) (by kernel_rfl) (by kernel_rfl) (fun _ _ _ h => h) (Or.inl ⟨by rfl, ?_⟩) hCv ?_
            rotate_left
            · intro w hSw; clear hSw; go_simp; (try with_reducible rfl)
            (try simp only [List.getElem_toArray, List.getElem_cons_succ, List.getElem_cons_zero])
            (try simp only [Act.put, List.setIfInBounds_toArray, List.set_cons_zero, List.set_cons_succ])
            have hbA := alloc_below wv (.cells #[.bool false, .slice none 0 0, .slice none 0 0] 28)
            have B10 := BoxIs.new (w := wv) (t := zTri) (q := 0) (rat_zero _)
            have B10' : BoxIs (wv.alloc (.cells #[.bool false, .slice none 0 0, .slice none 0 0] 28)) wv.heap.size zTri 0 := B10
            have rA := r0.below hbA
            have blA := below_step J.bl hbA
            have hCA : (fun w' : World => (w'.cell? ⟨w.heap.size, 0, none⟩ = some (.int .i64 x) ∧ w'.cell? ⟨w.heap.size, 1, none⟩ = some (.int .i64 y)) ∧ w'.cell? ⟨g1, 0, none⟩ = some (.int .i64 z) ∧ w'.cell? ⟨g1, 1, none⟩ = some (.int .i64 u)) _ := unhide HC5 _ (below_step bd0 blA)
            have e10 : Wx.heap.size ≤ wv.heap.size := J.bl.size
            refine wpHold_one (k := 12) (by kernel_rfl) rfl (fun K hK => ?_)
            (try simp only [List.getElem_toArray, List.getElem_cons_succ, List.getElem_cons_zero])
            go_simp
            refine hK.out _ _ hCA ?_
            clear hK K
            (try simp only [Act.put, List.setIfInBounds_toArray, List.set_cons_zero, List.set_cons_succ])
            obtain ⟨wA, hwA⟩ : ∃ W, wv.alloc (.cells #[.bool false, .slice none 0 0, .slice none 0 0] 28) = W := ⟨_, rfl⟩
            obtain ⟨bd, hbn⟩ : ∃ b, wv.heap.size = b := ⟨_, rfl⟩
            rw [hwA] at B10' rA blA hCA
            rw [hbn] at B10' e10
            simp only [hwA, hbn]
            clear B10 hbA hwA hbn
            replace B10 := B10'
            clear B10'
            have ⟨l0, l1, l2⟩ := B10.free
            have ⟨k0, k1, k2⟩ := B10.cells _ (Below.refl _ _)
            have HJB := hide (below_step bd0 blA)
            have NB := B10.set rA
            have e10' : w5.heap.size ≤ bd := Nat.le_trans bd0.size e10
            have YB := (((below_step bd0 blA).setCell (p := ⟨bd, 0, none⟩) e10' (.bool td.s)).setCell (p := ⟨bd, 1, none⟩) e10' (.slice td.a1 td.n1 td.c1)).setCell (p := ⟨bd, 2, none⟩) e10' (.slice td.a2 td.n2 td.c2)
            have HG_bd := hide e10'
            have hCn : (fun w' : World => (w'.cell? ⟨w.heap.size, 0, none⟩ = some (.int .i64 x) ∧ w'.cell? ⟨w.heap.size, 1, none⟩ = some (.int .i64 y)) ∧ w'.cell? ⟨g1, 0, none⟩ = some (.int .i64 z) ∧ w'.cell? ⟨g1, 1, none⟩ = some (.int .i64 u)) _ := unhide HC5 _ YB
            obtain ⟨Wbd, hWy⟩ : ∃ W, ((wA.setCell ⟨bd, 0, none⟩ (.bool td.s)).setCell ⟨bd, 1, none⟩ (.slice td.a1 td.n1 td.c1)).setCell ⟨bd, 2, none⟩ (.slice td.a2 td.n2 td.c2) = W := ⟨_, rfl⟩
            rw [hWy] at NB YB hCn
            have HX_bd := hide NB
            have HY_bd := hide YB
            clear J B10 YB NB e10' hCv
            refine wpHold_one (k := 13) (by kernel_rfl) rfl (fun K hK => ?_)
            (try simp only [List.getElem_toArray, List.getElem_cons_succ, List.getElem_cons_zero])
            go_simp
            refine hK.out _ _ hCn ?_
            clear hK K
            (try simp only [Act.put, List.setIfInBounds_toArray, List.set_cons_zero, List.set_cons_succ])
            refine wpHold_one (k := 14) (by kernel_rfl) rfl (fun K hK => ?_)
            (try simp only [List.getElem_toArray, List.getElem_cons_succ, List.getElem_cons_zero])
            go_simp
            refine hK.out _ _ hCn ?_
            clear hK K
            (try simp only [Act.put, List.setIfInBounds_toArray, List.set_cons_zero, List.set_cons_succ])
            refine wpHold_done (by kernel_rfl) ?_ _
            clear hCn l0 l1 l2 k0 k1 k2 hWy e10 bd0 hWx r0 HJB KP1 KP2 KP3 KP4 KP5 hCA rA blA
            have hb0 := unhide HY_bd
            have X1 := unhide HX_bd
            have X0 := unhide HXC _ hb0
            have HCM := hide (cmpR_any _ _ _ _ Wbd X0.2 X1.2 (unhide HSC).1 (unhide HSD).1 (unhide HSC).2 (unhide HSD).2)
            obtain ⟨sg, hsg⟩ : ∃ s, Wd.sg ((lossV (pqs ps) (pq (x, y)) (pq (z, u)) m).num * (lossV (pqs ps) (pq (x, y)) (pq (z, u)) m').den) ((lossV (pqs ps) (pq (x, y)) (pq (z, u)) m').num * (lossV (pqs ps) (pq (x, y)) (pq (z, u)) m).den) = s := ⟨_, rfl⟩
            rw [hsg] at HCM
            have hle : sg ≤ 0 := by rw [← hsg]; exact cmp_le (unhide HLE m')
            obtain ⟨c0, c1, c2⟩ := X0.cells _ (Below.refl _ _)
            obtain ⟨d0, d1, d2⟩ := X1.cells _ (Below.refl _ _)
            have HYY := hide (unhide HBX _ hb0)
            simp only [Tri.val] at HCM
            clear hb0 X0 X1 HX_bd HY_bd HG_bd hsg
            go_wp2_with fail
            refine (unhide HCM).mono ?_
            rintro e w9 ⟨rfl, hb9⟩
            have HB9 := hide (below_step (unhide HYY) hb9)
            clear hb9 HCM c0 c1 c2 d0 d1 d2
            go_wp2
            go_ret
            exact ⟨rfl, unhide HB9⟩
    | false =>
      refine wpHold_take (i := 7) (v := ?_) rfl (by kernel_rfl) (by kernel_rfl) (by kernel_rfl) (fun _ _ _ h => h) (Or.inl ⟨by rfl, ?_⟩) hCv ?_
      rotate_left
      · intro w hSw; clear hSw; go_simp; (try with_reducible rfl)
      (try simp only [List.getElem_toArray, List.getElem_cons_succ, List.getElem_cons_zero])
      (try simp only [Act.put, List.setIfInBounds_toArray, List.set_cons_zero, List.set_cons_succ])
      refine wpHold_take (i := 8) (v := ?_) rfl (by kernel_rfl) (by kernel_rfl) (by kernel_rfl) (fun _ _ _ h => h) (Or.inl ⟨by rfl, ?_⟩) hCv ?_
      rotate_left
      · intro w hSw; clear hSw; go_simp; (try with_reducible rfl)
      (try simp only [List.getElem_toArray, List.getElem_cons_succ, List.getElem_cons_zero])
      (try simp only [Act.put, List.setIfInBounds_toArray, List.set_cons_zero, List.set_cons_succ])
      refine wpHold_take (i := 9) (v := ?_) rfl (by kernel_rfl) (by kernel_rfl) (by kernel_rfl) (fun _ _ _ h => h) (Or.inl ⟨by rfl, ?_⟩) hCv ?_
      rotate_left
      · intro w hSw; clear hSw; go_simp; (try with_reducible rfl)
      (try simp only [List.getElem_toArray, List.getElem_cons_succ, List.getElem_cons_zero])
      (try simp only [Act.put, List.setIfInBounds_toArray, List.set_cons_zero, List.set_cons_succ])
      refine wpHold_take (i := 10) (v := ?_) rfl (by kernel_rfl) (by kernel_rfl) (by kernel_rfl) (fun _ _ _ h => h) (Or.inl ⟨by rfl, ?_⟩) hCv ?_
      rotate_left
      · intro w hSw; clear hSw; go_simp; (try with_reducible rfl)
      (try simp only [List.getElem_toArray, List.getElem_cons_succ, List.getElem_cons_zero])
      (try simp only [Act.put, List.setIfInBounds_toArray, List.set_cons_zero, List.set_cons_succ])
      have hbA := alloc_below wv (.cells #[.bool false, .slice none 0 0, .slice none 0 0] 28)
      have B10 := BoxIs.new (w := wv) (t := zTri) (q := 0) (rat_zero _)
      have B10' : BoxIs (wv.alloc (.cells #[.bool false, .slice none 0 0, .slice none 0 0] 28)) wv.heap.size zTri 0 := B10
      have rA := r0.below hbA
      have blA := below_step J.bl hbA
      have hCA : (fun w' : World => (w'.cell? ⟨w.heap.size, 0, none⟩ = some (.int .i64 x) ∧ w'.cell? ⟨w.heap.size, 1, none⟩ = some (.int .i64 y)) ∧ w'.cell? ⟨g1, 0, none⟩ = some (.int .i64 z) ∧ w'.cell? ⟨g1, 1, none⟩ = some (.int .i64 u)) _ := unhide HCC _ (below_step bd0 blA)
      have e10 : Wx.heap.size ≤ wv.heap.size := J.bl.size
      refine wpHold_one (k := 11) (by kernel_rfl) rfl (fun K hK => ?_)
      (try simp only [List.getElem_toArray, List.getElem_cons_succ, List.getElem_cons_zero])
      go_simp
      refine hK.out _ _ hCA ?_
      clear hK K
      (try simp only [Act.put, List.setIfInBounds_toArray, List.set_cons_zero, List.set_cons_succ])
      obtain ⟨wA, hwA⟩ : ∃ W, wv.alloc (.cells #[.bool false, .slice none 0 0, .slice none 0 0] 28) = W := ⟨_, rfl⟩
      obtain ⟨bc, hbn⟩ : ∃ b, wv.heap.size = b := ⟨_, rfl⟩
      rw [hwA] at B10' rA blA hCA
      rw [hbn] at B10' e10
      simp only [hwA, hbn]
      clear B10 hbA hwA hbn
      replace B10 := B10'
      clear B10'
      have ⟨l0, l1, l2⟩ := B10.free
      have ⟨k0, k1, k2⟩ := B10.cells _ (Below.refl _ _)
      have HJB := hide (below_step bd0 blA)
      have NB := B10.set rA
      have e10' : W2.heap.size ≤ bc := Nat.le_trans bd0.size e10
      have YB := (((below_step bd0 blA).setCell (p := ⟨bc, 0, none⟩) e10' (.bool tc.s)).setCell (p := ⟨bc, 1, none⟩) e10' (.slice tc.a1 tc.n1 tc.c1)).setCell (p := ⟨bc, 2, none⟩) e10' (.slice tc.a2 tc.n2 tc.c2)
      have HG_bc := hide e10'
      have hCn : (fun w' : World => (w'.cell? ⟨w.heap.size, 0, none⟩ = some (.int .i64 x) ∧ w'.cell? ⟨w.heap.size, 1, none⟩ = some (.int .i64 y)) ∧ w'.cell? ⟨g1, 0, none⟩ = some (.int .i64 z) ∧ w'.cell? ⟨g1, 1, none⟩ = some (.int .i64 u)) _ := unhide HCC _ YB
      obtain ⟨Wbc, hWy⟩ : ∃ W, ((wA.setCell ⟨bc, 0, none⟩ (.bool tc.s)).setCell ⟨bc, 1, none⟩ (.slice tc.a1 tc.n1 tc.c1)).setCell ⟨bc, 2, none⟩ (.slice tc.a2 tc.n2 tc.c2) = W := ⟨_, rfl⟩
      rw [hWy] at NB YB hCn
      have HX_bc := hide NB
      have HY_bc := hide YB
      clear J B10 YB NB e10' hCv
      refine wpHold_one (k := 12) (by kernel_rfl) rfl (fun K hK => ?_)
      (try simp only [List.getElem_toArray, List.getElem_cons_succ, List.getElem_cons_zero])
      go_simp
      refine hK.out _ _ (unhide HCC _ (unhide HJB)) ?_
      clear hK K
      (try simp only [Act.put, List.setIfInBounds_toArray, List.set_cons_zero, List.set_cons_succ])
      refine wpHold_one (k := 13) (by kernel_rfl) rfl (fun K hK => ?_)
      (try simp only [List.getElem_toArray, List.getElem_cons_succ, List.getElem_cons_zero])
      go_simp
      refine hK.out _ _ hCn ?_
      clear hK K
      (try simp only [Act.put, List.setIfInBounds_toArray, List.set_cons_zero, List.set_cons_succ])
      refine wpHold_one (k := 14) (by kernel_rfl) rfl (fun K hK => ?_)
      (try simp only [List.getElem_toArray, List.getElem_cons_succ, List.getElem_cons_zero])
      go_simp
      refine hK.out _ _ hCn ?_
      clear hK K
      (try simp only [Act.put, List.setIfInBounds_toArray, List.set_cons_zero, List.set_cons_succ])
      refine wpHold_done (by kernel_rfl) ?_ _
      clear hCn l0 l1 l2 k0 k1 k2 hWy e10 bd0 hWx r0 HJB KP1 KP2 KP3 KP4 hCA rA blA
      have hb0 := unhide HY_bc
      have HT3 := hide (tab_below (unhide HTB) hb0)
      have C1 := hide (sold_any Wbc (unhide HT3))
      have HX1 := hide (unhide HX_bc)
      have HB1 := hide (unhide HBW _ hb0)
      have HQ1 : Hid (∀ W, Below Wbc.heap.size Wbc W → (fun w' : World => (w'.cell? ⟨w.heap.size, 0, none⟩ = some (.int .i64 x) ∧ w'.cell? ⟨w.heap.size, 1, none⟩ = some (.int .i64 y)) ∧ w'.cell? ⟨g1, 0, none⟩ = some (.int .i64 z) ∧ w'.cell? ⟨g1, 1, none⟩ = some (.int .i64 u)) W ∧ PairsAre W v ps ∧ Tab W) := fun W hW => ⟨unhide HCC W (below_step hb0 hW), (unhide HPW _ (below_step hb0 hW)), tab_below (unhide HT3) hW⟩
      clear hb0 HX_bc HY_bc HG_bc
      go_wp2_with fail
      refine (unhide C1).mono ?_
      rintro e w5 ⟨rfl, hb5⟩
      clear C1
      rcases hrel with ⟨hc, rfl, rfl, hq0⟩ | ⟨hc, rfl, m, rfl, hn, hql⟩
      · have C2 := hide (sold_any w5 (unhide HQ1 _ hb5).2.2)
        obtain ⟨kc, hkc⟩ : ∃ k, ncode (pqs ps) (pq (x, y)) (pq (z, u)) = k := ⟨_, rfl⟩
        rw [hkc] at hc
        have q5 : (kc == 0) = false := by simpa using hc
        rw [hkc]
        have HB5 := hide hb5
        rw [hq0] at HX1
        clear hkc hb5
        go_wp2_with fail
        refine (unhide C2).mono ?_
        rintro e w6 ⟨rfl, hb6⟩
        have hb56 := below_step (unhide HB5) hb6
        have C3 := hide (sign_any _ _ w6 ((unhide HX1).keep hb56).2)
        obtain ⟨c0, c1, c2⟩ := (unhide HX1).cells _ hb56
        have HB6 := hide (below_step (unhide HB1) hb56)
        simp only [Tri.val] at C3
        rw [show (0 : Rat).num.sign = 0 from rfl] at C3
        clear C2 hb6 hb56
        go_wp2_with fail
        refine (unhide C3).mono ?_
        rintro e w7 ⟨rfl, hb7⟩
        have HB7 := hide (below_step (unhide HB6) hb7)
        clear hb7 C3 c0 c1 c2
        go_wp2
        go_ret
        exact ⟨rfl, unhide HB7⟩
      · rw [hql] at HX1
        have HLE : Hid (∀ k, lossV (pqs ps) (pq (x, y)) (pq (z, u)) m ≤ lossV (pqs ps) (pq (x, y)) (pq (z, u)) k) := fun k => news_least hc hn k
        have hck := unhide HCK hc
        have hm100 := hn.le hck
        have HSC := hide (sm_RS (lossV_RS (unhide HQS) (chk_zero hck).2.1 (unhide HRA) (unhide HRB) hm100) (unhide HK2))
        have HCH := hide hck
        have HXC : Hid (∀ W, Below w5.heap.size w5 W → BoxIs W bc tc (lossV (pqs ps) (pq (x, y)) (pq (z, u)) m)) := fun W hW => (unhide HX1).keep (below_step hb5 hW)
        have HBX : Hid (∀ W, Below w5.heap.size w5 W → Below w.heap.size w W) := fun W hW => below_step (unhide HB1) (below_step hb5 hW)
        have HC5 : Hid (∀ W, Below w5.heap.size w5 W → (fun w' : World => (w'.cell? ⟨w.heap.size, 0, none⟩ = some (.int .i64 x) ∧ w'.cell? ⟨w.heap.size, 1, none⟩ = some (.int .i64 y)) ∧ w'.cell? ⟨g1, 0, none⟩ = some (.int .i64 z) ∧ w'.cell? ⟨g1, 1, none⟩ = some (.int .i64 u)) W) := fun W hW => (unhide HQ1 W (below_step hb5 hW)).1
        have HP5 : Hid (∀ W, Below w5.heap.size w5 W → PairsAre W v ps) := fun W hW => (unhide HQ1 W (below_step hb5 hW)).2.1
        clear hb5 hn hck hm100 HB1 HQ1 HX1 hql hc
        go_wp2_with fail
        refine wp_region_hold (fun w' : World => (w'.cell? ⟨w.heap.size, 0, none⟩ = some (.int .i64 x) ∧ w'.cell? ⟨w.heap.size, 1, none⟩ = some (.int .i64 y)) ∧ w'.cell? ⟨g1, 0, none⟩ = some (.int .i64 z) ∧ w'.cell? ⟨g1, 1, none⟩ = some (.int .i64 u)) (by kernel_rfl) ?_
        have bd0 : Below w5.heap.size w5 w5.drew := (Below.refl _ _).drew
        obtain ⟨Wx, hWx⟩ : ∃ W, w5.drew = W := ⟨_, rfl⟩
        rw [hWx] at bd0 ⊢
        have hC0 : (fun w' : World => (w'.cell? ⟨w.heap.size, 0, none⟩ = some (.int .i64 x) ∧ w'.cell? ⟨w.heap.size, 1, none⟩ = some (.int .i64 y)) ∧ w'.cell? ⟨g1, 0, none⟩ = some (.int .i64 z) ∧ w'.cell? ⟨g1, 1, none⟩ = some (.int .i64 u)) Wx := unhide HC5 _ bd0
        have KP1 : Hid (∀ (w w' : World) (s : Value), (fun (w : World) (s : Value) => LawIs w s (pqs ps)) w s → Below w.heap.size w w' → (fun (w : World) (s : Value) => LawIs w s (pqs ps)) w' s) := fun _ _ _ h hb => LawIs.below h hb
        have KP2 : Hid (∀ (w w' : World) (s : Value), (fun (w : World) (s : Value) => RatIs w s (pq (x, y))) w s → Below w.heap.size w w' → (fun (w : World) (s : Value) => RatIs w s (pq (x, y))) w' s) := fun _ _ _ h hb => RatIs.below h hb
        have KP3 : Hid (∀ (w w' : World) (s : Value), (fun (w : World) (s : Value) => RatIs w s (pq (z, u))) w s → Below w.heap.size w w' → (fun (w : World) (s : Value) => RatIs w s (pq (z, u))) w' s) := fun _ _ _ h hb => RatIs.below h hb
        have KP4 : Hid (∀ (w w' : World) (s : Value), (fun (_ : World) (s : Value) => ∃ m : Nat, s = .int .i64 (m : Int) ∧ m ≤ 100) w s → Below w.heap.size w w' → (fun (_ : World) (s : Value) => ∃ m : Nat, s = .int .i64 (m : Int) ∧ m ≤ 100) w' s) := fun _ _ _ h _ => h
        have KP5 : Hid (∀ (w w' : World) (s : Value), (fun (w : World) (s : Value) => ∃ (m : Nat) (v : Value), m ≤ 100 ∧ s = .tuple #[v, .nilIface] ∧ RatIs w v (lossV (pqs ps) (pq (x, y)) (pq (z, u)) m)) w s → Below w.heap.size w w' → (fun (w : World) (s : Value) => ∃ (m : Nat) (v : Value), m ≤ 100 ∧ s = .tuple #[v, .nilIface] ∧ RatIs w v (lossV (pqs ps) (pq (x, y)) (pq (z, u)) m)) w' s) := fun _ _ _ h hb => by obtain ⟨m, v, h1, h2, h3⟩ := h; exact ⟨m, v, h1, h2, h3.below hb⟩
        refine wpHold_take (i := 0) (v := ?_) rfl (by kernel_rfl) (by kernel_rfl) (by kernel_rfl) (fun _ _ _ h => h) (Or.inl ⟨by rfl, ?_⟩) hC0 ?_
        rotate_left
        · intro w hSw; clear hSw; go_simp; (try with_reducible rfl)
        (try simp only [List.getElem_toArray, List.getElem_cons_succ, List.getElem_cons_zero])
        (try simp only [Act.put, List.setIfInBounds_toArray, List.set_cons_zero, List.set_cons_succ])
        refine wpHold_take (i := 2) (v := ?_) rfl (by kernel_rfl) (by kernel_rfl) (by kernel_rfl) (fun _ _ _ h => h) (Or.inl ⟨by rfl, ?_⟩) hC0 ?_
        rotate_left
        · intro w hSw; (try dsimp only at hSw); obtain ⟨⟨z0, z1⟩, z2, z3⟩ := hSw; go_simp; (try with_reducible rfl)
        (try simp only [List.getElem_toArray, List.getElem_cons_succ, List.getElem_cons_zero])
        (try simp only [Act.put, List.setIfInBounds_toArray, List.set_cons_zero, List.set_cons_succ])
        refine wpHold_take (i := 4) (v := ?_) rfl (by kernel_rfl) (by kernel_rfl) (by kernel_rfl) (fun _ _ _ h => h) (Or.inl ⟨by rfl, ?_⟩) hC0 ?_
        rotate_left
        · intro w hSw; (try dsimp only at hSw); obtain ⟨⟨z0, z1⟩, z2, z3⟩ := hSw; go_simp; (try with_reducible rfl)
        (try simp only [List.getElem_toArray, List.getElem_cons_succ, List.getElem_cons_zero])
        (try simp only [Act.put, List.setIfInBounds_toArray, List.set_cons_zero, List.set_cons_succ])
        refine wpHold_take (i := 6) (v := ?_) rfl (by kernel_rfl) (by kernel_rfl) (by kernel_rfl) (fun _ _ _ h => h) (Or.inl ⟨by rfl, ?_⟩) hC0 ?_
        rotate_left
        · intro w hSw; clear hSw; go_simp; (try with_reducible rfl)
        (try simp only [List.getElem_toArray, List.getElem_cons_succ, List.getElem_cons_zero])
        (try simp only [Act.put, List.setIfInBounds_toArray, List.set_cons_zero, List.set_cons_succ])
        refine wpHold_listed (n := 11) (L' := (fun nc nl => #[true, decide (1 ≤ nc), true, decide (2 ≤ nc), true, decide (3 ≤ nc), true, decide (4 ≤ nc), decide (5 ≤ nc), false, false, false, nl, false, false]) 0 false) (by kernel_rfl) (by kernel_rfl) ?_
        refine wpHold_name (fun a0 ha0 => ?_)
        refine chain_fin 5 (fun nc nl => #[true, decide (1 ≤ nc), true, decide (2 ≤ nc), true, decide (3 ≤ nc), true, decide (4 ≤ nc), decide (5 ≤ nc), false, false, false, nl, false, false]) (fun nc => match nc with | 0 => 1 | 1 => 3 | 2 => 5 | 3 => 7 | _ => 8) 12 5 (fun nc nl na W => ∃ s1 s2 s3 s4 s5 s6, na = (((((a0.put (some 46) s1).put (some 48) s2).put (some 50) s3).put (some 52) s4).put (some 53) s5).put (some 12) s6 ∧ Nj5 (fun (w : World) (s : Value) => LawIs w s (pqs ps)) (fun (w : World) (s : Value) => RatIs w s (pq (x, y))) (fun (w : World) (s : Value) => RatIs w s (pq (z, u))) (fun (_ : World) (s : Value) => ∃ m : Nat, s = .int .i64 (m : Int) ∧ m ≤ 100) (fun (w : World) (s : Value) => ∃ (m : Nat) (v : Value), m ≤ 100 ∧ s = .tuple #[v, .nilIface] ∧ RatIs w v (lossV (pqs ps) (pq (x, y)) (pq (z, u)) m)) Wx nc nl W s1 s2 s3 s4 s5 s6) ?_ ?_ ?_ ?_ ?_ ?_ ?_ 6 0 false (by omega) (by rfl) _ _ ⟨undef, undef, undef, undef, undef, undef, by subst ha0; rfl, Below.refl _ _, fun h => absurd h (by decide), fun h => absurd h (by decide), fun h => absurd h (by decide), fun h => absurd h (by decide), fun h => absurd h (by decide), fun h => by cases h⟩
        · clear ha0
          intro nc nl hnc
          match nc, hnc with
          | 0, _ => cases nl <;> (show (_ : Bool) = _; kernel_rfl)
          | 1, _ => cases nl <;> (show (_ : Bool) = _; kernel_rfl)
          | 2, _ => cases nl <;> (show (_ : Bool) = _; kernel_rfl)
          | 3, _ => cases nl <;> (show (_ : Bool) = _; kernel_rfl)
          | 4, _ => cases nl <;> (show (_ : Bool) = _; kernel_rfl)
        · clear ha0
          intro nc nl hnc
          match nc, hnc with
          | 0, _ => cases nl <;> (show (_ : Bool) = _; kernel_rfl)
          | 1, _ => cases nl <;> (show (_ : Bool) = _; kernel_rfl)
          | 2, _ => cases nl <;> (show (_ : Bool) = _; kernel_rfl)
          | 3, _ => cases nl <;> (show (_ : Bool) = _; kernel_rfl)
          | 4, _ => cases nl <;> (show (_ : Bool) = _; kernel_rfl)
        · clear ha0
          intro nc nl hnc
          match nc, hnc with
          | 0, _ => rfl
          | 1, _ => rfl
          | 2, _ => rfl
          | 3, _ => rfl
          | 4, _ => rfl
        · clear ha0
          intro nc hnc
          match nc, hnc with
          | 0, _ => rfl
          | 1, _ => rfl
          | 2, _ => rfl
          | 3, _ => rfl
          | 4, _ => rfl
        · rintro nc nl na wv hnc ⟨s1, s2, s3, s4, s5, s6, rfl, J⟩
          subst ha0
          match nc, hnc, J with
          | 0, _, J =>
            refine wpOp_step rfl (fun K hK => ?_)
            (try simp only [Act.put, List.setIfInBounds_toArray, List.set_cons_zero, List.set_cons_succ] at hK ⊢)
            (try simp only [List.getElem_toArray, List.getElem_cons_succ, List.getElem_cons_zero])
            go_simp
            refine (law_any v ps _ (unhide HP5 _ (below_step bd0 J.bl)) (unhide HPL)).mono ?_
            rintro e wz ⟨v_, rfl, hv, hb⟩
            exact hK _ _ ⟨unhide HC5 _ (below_step bd0 (below_step J.bl hb)), v_, s2, s3, s4, s5, s6, rfl, below_step J.bl hb, fun _ => hv, fun h => absurd h (by decide), fun h => absurd h (by decide), fun h => absurd h (by decide), fun h => absurd h (by decide), fun h => by
              obtain ⟨b, e1, e2, e3⟩ := J.al h
              exact ⟨b, e1, e2.keep hb, e3⟩⟩
          | 1, _, J =>
            refine wpOp_step rfl (fun K hK => ?_)
            (try simp only [Act.put, List.setIfInBounds_toArray, List.set_cons_zero, List.set_cons_succ] at hK ⊢)
            (try simp only [List.getElem_toArray, List.getElem_cons_succ, List.getElem_cons_zero])
            go_simp
            refine (unhide HFA _).mono ?_
            rintro e wz ⟨v_, rfl, hv, hb⟩
            exact hK _ _ ⟨unhide HC5 _ (below_step bd0 (below_step J.bl hb)), s1, v_, s3, s4, s5, s6, rfl, below_step J.bl hb, fun _ => unhide KP1 _ _ _ (J.r1 (by decide)) hb, fun _ => hv, fun h => absurd h (by decide), fun h => absurd h (by decide), fun h => absurd h (by decide), fun h => by
              obtain ⟨b, e1, e2, e3⟩ := J.al h
              exact ⟨b, e1, e2.keep hb, e3⟩⟩
          | 2, _, J =>
            refine wpOp_step rfl (fun K hK => ?_)
            (try simp only [Act.put, List.setIfInBounds_toArray, List.set_cons_zero, List.set_cons_succ] at hK ⊢)
            (try simp only [List.getElem_toArray, List.getElem_cons_succ, List.getElem_cons_zero])
            go_simp
            refine (unhide HFB _).mono ?_
            rintro e wz ⟨v_, rfl, hv, hb⟩
            exact hK _ _ ⟨unhide HC5 _ (below_step bd0 (below_step J.bl hb)), s1, s2, v_, s4, s5, s6, rfl, below_step J.bl hb, fun _ => unhide KP1 _ _ _ (J.r1 (by decide)) hb, fun _ => unhide KP2 _ _ _ (J.r2 (by decide)) hb, fun _ => hv, fun h => absurd h (by decide), fun h => absurd h (by decide), fun h => by
              obtain ⟨b, e1, e2, e3⟩ := J.al h
              exact ⟨b, e1, e2.keep hb, e3⟩⟩
          | 3, _, J =>
            refine wpOp_step rfl (fun K hK => ?_)
            (try simp only [Act.put, List.setIfInBounds_toArray, List.set_cons_zero, List.set_cons_succ] at hK ⊢)
            (try simp only [List.getElem_toArray, List.getElem_cons_succ, List.getElem_cons_zero])
            go_simp
            refine (unhide HPI _).mono ?_
            rintro e wz ⟨m_, rfl, hm_, hb⟩
            exact hK _ _ ⟨unhide HC5 _ (below_step bd0 (below_step J.bl hb)), s1, s2, s3, .int .i64 (m_ : Int), s5, s6, rfl, below_step J.bl hb, fun _ => unhide KP1 _ _ _ (J.r1 (by decide)) hb, fun _ => unhide KP2 _ _ _ (J.r2 (by decide)) hb, fun _ => unhide KP3 _ _ _ (J.r3 (by decide)) hb, fun _ => ⟨m_, rfl, hm_⟩, fun h => absurd h (by decide), fun h => by
              obtain ⟨b, e1, e2, e3⟩ := J.al h
              exact ⟨b, e1, e2.keep hb, e3⟩⟩
          | 4, _, J =>
            refine wpOp_step rfl (fun K hK => ?_)
            (try simp only [Act.put, List.setIfInBounds_toArray, List.set_cons_zero, List.set_cons_succ] at hK ⊢)
            (try simp only [List.getElem_toArray, List.getElem_cons_succ, List.getElem_cons_zero])
            go_simp
            refine (unhide HLO _ _ _ _ _ (J.r4 (by decide)) (J.r1 (by decide)) (J.r2 (by decide)) (J.r3 (by decide)) (unhide HCH)).mono ?_
            rintro e wz ⟨m_, v_, rfl, hm_, hv, hb⟩
            exact hK _ _ ⟨unhide HC5 _ (below_step bd0 (below_step J.bl hb)), s1, s2, s3, s4, .tuple #[v_, .nilIface], s6, rfl, below_step J.bl hb, fun _ => unhide KP1 _ _ _ (J.r1 (by decide)) hb, fun _ => unhide KP2 _ _ _ (J.r2 (by decide)) hb, fun _ => unhide KP3 _ _ _ (J.r3 (by decide)) hb, fun _ => unhide KP4 _ _ _ (J.r4 (by decide)) hb, fun _ => ⟨m_, v_, hm_, rfl, hv⟩, fun h => by
              obtain ⟨b, e1, e2, e3⟩ := J.al h
              exact ⟨b, e1, e2.keep hb, e3⟩⟩
        · rintro nc na wv hnc ⟨s1, s2, s3, s4, s5, s6, rfl, J⟩
          subst ha0
          refine wpOp_step rfl (fun K hK => ?_)
          (try simp only [Act.put, List.setIfInBounds_toArray, List.set_cons_zero, List.set_cons_succ] at hK ⊢)
          (try simp only [List.getElem_toArray, List.getElem_cons_succ, List.getElem_cons_zero])
          go_simp
          have hb := alloc_below wv (.cells #[.bool false, .slice none 0 0, .slice none 0 0] 28)
          exact hK _ _ ⟨unhide HC5 _ (below_step bd0 (below_step J.bl hb)), s1, s2, s3, s4, s5, .pointer (some ⟨wv.heap.size, 0, none⟩), rfl, below_step J.bl hb, fun h => unhide KP1 _ _ _ (J.r1 h) hb, fun h => unhide KP2 _ _ _ (J.r2 h) hb, fun h => unhide KP3 _ _ _ (J.r3 h) hb, fun h => unhide KP4 _ _ _ (J.r4 h) hb, fun h => unhide KP5 _ _ _ (J.r5 h) hb, fun _ => ⟨wv.heap.size, rfl, BoxIs.new (t := zTri) (rat_zero _), J.bl.size⟩⟩
        · rintro nl na wv ⟨s1, s2, s3, s4, s5, s6, rfl, J⟩
          subst ha0
          obtain ⟨m', v_, hm', rfl, hv_⟩ := J.r5 (by decide)
          obtain ⟨td, rfl, r0⟩ := tri_of hv_
          have HSD := hide (sm_RS (lossV_RS (unhide HQS) (chk_zero (unhide HCH)).2.1 (unhide HRA) (unhide HRB) hm') (unhide HK2))
          clear hm' hv_
          simp only [Tri.val]
          (try simp only [Act.put, List.setIfInBounds_toArray, List.set_cons_zero, List.set_cons_succ])
          have hCv : (fun w' : World => (w'.cell? ⟨w.heap.size, 0, none⟩ = some (.int .i64 x) ∧ w'.cell? ⟨w.heap.size, 1, none⟩ = some (.int .i64 y)) ∧ w'.cell? ⟨g1, 0, none⟩ = some (.int .i64 z) ∧ w'.cell? ⟨g1, 1, none⟩ = some (.int .i64 u)) wv := unhide HC5 _ (below_step bd0 J.bl)
          clear hC0
          cases nl with
          | true =>
            obtain ⟨bd, rfl, B10, e10⟩ := J.al rfl
            refine wpHold_take (i := 9) (v := ?_) rfl (by kernel_rfl) (by kernel_rfl) (by kernel_rfl) (fun _ _ _ h => h) (Or.inl ⟨by rfl, ?_⟩) hCv ?_
            rotate_left
            · intro w hSw; clear hSw; go_simp; (try with_reducible rfl)
            (try simp only [List.getElem_toArray, List.getElem_cons_succ, List.getElem_cons_zero])
            (try simp only [Act.put, List.setIfInBounds_toArray, List.set_cons_zero, List.set_cons_succ])
            refine wpHold_take (i := 10) (v := ?_) rfl (by kernel_rfl) (by kernel_rfl) (by kernel_rfl) (fun _ _ _ h => h) (Or.inl ⟨by rfl, ?_⟩) hCv ?_
            rotate_left
            · intro w hSw; clear hSw; go_simp; (try with_reducible rfl)
            (try simp only [List.getElem_toArray, List.getElem_cons_succ, List.getElem_cons_zero])
            (try simp only [Act.put, List.setIfInBounds_toArray, List.set_cons_zero, List.set_cons_succ])
            refine wpHold_take (i := 11) (v := ?_) rfl (by kernel_rfl) (by kernel_rfl) (by kernel_rfl) (fun _ _ _ h => h) (Or.inl ⟨by rfl, ?_⟩) hCv ?_
            rotate_left
            · intro w hSw; clear hSw; go_simp; (try with_reducible rfl)
            (try simp only [List.getElem_toArray, List.getElem_cons_succ, List.getElem_cons_zero])
            (try simp only [Act.put, List.setIfInBounds_toArray, List.set_cons_zero, List.set_cons_succ])
            have ⟨l0, l1, l2⟩ := B10.free
            have ⟨k0, k1, k2⟩ := B10.cells _ (Below.refl _ _)
            have HJB := hide (below_step bd0 J.bl)
            have NB := B10.set r0
            have e10' : w5.heap.size ≤ bd := Nat.le_trans bd0.size e10
            have YB := (((below_step bd0 J.bl).setCell (p := ⟨bd, 0, none⟩) e10' (.bool td.s)).setCell (p := ⟨bd, 1, none⟩) e10' (.slice td.a1 td.n1 td.c1)).setCell (p := ⟨bd, 2, none⟩) e10' (.slice td.a2 td.n2 td.c2)
            have HG_bd := hide e10'
            have hCn : (fun w' : World => (w'.cell? ⟨w.heap.size, 0, none⟩ = some (.int .i64 x) ∧ w'.cell? ⟨w.heap.size, 1, none⟩ = some (.int .i64 y)) ∧ w'.cell? ⟨g1, 0, none⟩ = some (.int .i64 z) ∧ w'.cell? ⟨g1, 1, none⟩ = some (.int .i64 u)) _ := unhide HC5 _ YB
            obtain ⟨Wbd, hWy⟩ : ∃ W, ((wv.setCell ⟨bd, 0, none⟩ (.bool td.s)).setCell ⟨bd, 1, none⟩ (.slice td.a1 td.n1 td.c1)).setCell ⟨bd, 2, none⟩ (.slice td.a2 td.n2 td.c2) = W := ⟨_, rfl⟩
            rw [hWy] at NB YB hCn
            have HX_bd := hide NB
            have HY_bd := hide YB
            clear J B10 YB NB e10' hCv
            refine wpHold_one (k := 13) (by kernel_rfl) rfl (fun K hK => ?_)
            (try simp only [List.getElem_toArray, List.getElem_cons_succ, List.getElem_cons_zero])
            go_simp
            refine hK.out _ _ hCn ?_
            clear hK K
            (try simp only [Act.put, List.setIfInBounds_toArray, List.set_cons_zero, List.set_cons_succ])
            refine wpHold_one (k := 14) (by kernel_rfl) rfl (fun K hK => ?_)
            (try simp only [List.getElem_toArray, List.getElem_cons_succ, List.getElem_cons_zero])
            go_simp
            refine hK.out _ _ hCn ?_
            clear hK K
            (try simp only [Act.put, List.setIfInBounds_toArray, List.set_cons_zero, List.set_cons_succ])
            refine wpHold_done (by kernel_rfl) ?_ _
            clear hCn l0 l1 l2 k0 k1 k2 hWy e10 bd0 hWx r0 HJB KP1 KP2 KP3 KP4 KP5
            have hb0 := unhide HY_bd
            have X1 := unhide HX_bd
            have X0 := unhide HXC _ hb0
            have HCM := hide (cmpR_any _ _ _ _ Wbd X0.2 X1.2 (unhide HSC).1 (unhide HSD).1 (unhide HSC).2 (unhide HSD).2)
            obtain ⟨sg, hsg⟩ : ∃ s, Wd.sg ((lossV (pqs ps) (pq (x, y)) (pq (z, u)) m).num * (lossV (pqs ps) (pq (x, y)) (pq (z, u)) m').den) ((lossV (pqs ps) (pq (x, y)) (pq (z, u)) m').num * (lossV (pqs ps) (pq (x, y)) (pq (z, u)) m).den) = s := ⟨_, rfl⟩
            rw [hsg] at HCM
            have hle : sg ≤ 0 := by rw [← hsg]; exact cmp_le (unhide HLE m')
            obtain ⟨c0, c1, c2⟩ := X0.cells _ (Below.refl _ _)
            obtain ⟨d0, d1, d2⟩ := X1.cells _ (Below.refl _ _)
            have HYY := hide (unhide HBX _ hb0)
            simp only [Tri.val] at HCM
            clear hb0 X0 X1 HX_bd HY_bd HG_bd hsg
            go_wp2_with fail
            refine (unhide HCM).mono ?_
            rintro e w9 ⟨rfl, hb9⟩
            have HB9 := hide (below_step (unhide HYY) hb9)
            clear hb9 HCM c0 c1 c2 d0 d1 d2
            go_wp2
            go_ret
            exact ⟨rfl, unhide HB9⟩
          | false =>
            refine wpHold_take (i := 9) (v := ?_) rfl (by kernel_rfl) (by kernel_rfl) (by kernel_rfl) (fun _ _ _ h => h) (Or.inl ⟨by rfl, ?_⟩) hCv ?_
            rotate_left
            · intro w hSw; clear hSw; go_simp; (try with_reducible rfl)
            (try simp only [List.getElem_toArray, List.getElem_cons_succ, List.getElem_cons_zero])
            (try simp only [Act.put, List.setIfInBounds_toArray, List.set_cons_zero, List.set_cons_succ])
            refine wpHold_take (i := 10) (v := ?_) rfl (by kernel_rfl) (by kernel_rfl) (by kernel_rfl) (fun _ _ _ h => h) (Or.inl ⟨by rfl, ?_⟩) hCv ?_
            rotate_left
            · intro w hSw; clear hSw; go_simp; (try with_reducible rfl)
            (try simp only [List.getElem_toArray, List.getElem_cons_succ, List.getElem_cons_zero])
            (try simp only [Act.put, List.setIfInBounds_toArray, List.set_cons_zero, List.set_cons_succ])
            refine wpHold_take (i := 11) (v := ?_) rfl (by kernel_rfl) (by kernel_rfl) (by kernel_rfl) (fun _ _ _ h => h) (Or.inl ⟨by rfl, ?_⟩) hCv ?_
            rotate_left
            · intro w hSw; clear hSw; go_simp; (try with_reducible rfl)
            (try simp only [List.getElem_toArray, List.getElem_cons_succ, List.getElem_cons_zero])
            (try simp only [Act.put, List.setIfInBounds_toArray, List.set_cons_zero, List.set_cons_succ])
            have hbA := alloc_below wv (.cells #[.bool false, .slice none 0 0, .slice none 0 0] 28)
            have B10 := BoxIs.new (w := wv) (t := zTri) (q := 0) (rat_zero _)
            have B10' : BoxIs (wv.alloc (.cells #[.bool false, .slice none 0 0, .slice none 0 0] 28)) wv.heap.size zTri 0 := B10
            have rA := r0.below hbA
            have blA := below_step J.bl hbA
            have hCA : (fun w' : World => (w'.cell? ⟨w.heap.size, 0, none⟩ = some (.int .i64 x) ∧ w'.cell? ⟨w.heap.size, 1, none⟩ = some (.int .i64 y)) ∧ w'.cell? ⟨g1, 0, none⟩ = some (.int .i64 z) ∧ w'.cell? ⟨g1, 1, none⟩ = some (.int .i64 u)) _ := unhide HC5 _ (below_step bd0 blA)
            have e10 : Wx.heap.size ≤ wv.heap.size := J.bl.size
            refine wpHold_one (k := 12) (by kernel_rfl) rfl (fun K hK => ?_)
            (try simp only [List.getElem_toArray, List.getElem_cons_succ, List.getElem_cons_zero])
            go_simp
            refine hK.out _ _ hCA ?_
            clear hK K
            (try simp only [Act.put, List.setIfInBounds_toArray, List.set_cons_zero, List.set_cons_succ])
            obtain ⟨wA, hwA⟩ : ∃ W, wv.alloc (.cells #[.bool false, .slice none 0 0, .slice none 0 0] 28) = W := ⟨_, rfl⟩
            obtain ⟨bd, hbn⟩ : ∃ b, wv.heap.size = b := ⟨_, rfl⟩
            rw [hwA] at B10' rA blA hCA
            rw [hbn] at B10' e10
            simp only [hwA, hbn]
            clear B10 hbA hwA hbn
            replace B10 := B10'
            clear B10'
            have ⟨l0, l1, l2⟩ := B10.free
            have ⟨k0, k1, k2⟩ := B10.cells _ (Below.refl _ _)
            have HJB := hide (below_step bd0 blA)
            have NB := B10.set rA
            have e10' : w5.heap.size ≤ bd := Nat.le_trans bd0.size e10
            have YB := (((below_step bd0 blA).setCell (p := ⟨bd, 0, none⟩) e10' (.bool td.s)).setCell (p := ⟨bd, 1, none⟩) e10' (.slice td.a1 td.n1 td.c1)).setCell (p := ⟨bd, 2, none⟩) e10' (.slice td.a2 td.n2 td.c2)
            have HG_bd := hide e10'
            have hCn : (fun w' : World => (w'.cell? ⟨w.heap.size, 0, none⟩ = some (.int .i64 x) ∧ w'.cell? ⟨w.heap.size, 1, none⟩ = some (.int .i64 y)) ∧ w'.cell? ⟨g1, 0, none⟩ = some (.int .i64 z) ∧ w'.cell? ⟨g1, 1, none⟩ = some (.int .i64 u)) _ := unhide HC5 _ YB
            obtain ⟨Wbd, hWy⟩ : ∃ W, ((wA.setCell ⟨bd, 0, none⟩ (.bool td.s)).setCell ⟨bd, 1, none⟩ (.slice td.a1 td.n1 td.c1)).setCell ⟨bd, 2, none⟩ (.slice td.a2 td.n2 td.c2) = W := ⟨_, rfl⟩
            rw [hWy] at NB YB hCn
            have HX_bd := hide NB
            have HY_bd := hide YB
            clear J B10 YB NB e10' hCv
            refine wpHold_one (k := 13) (by kernel_rfl) rfl (fun K hK => ?_)
            (try simp only [List.getElem_toArray, List.getElem_cons_succ, List.getElem_cons_zero])
            go_simp
            refine hK.out _ _ hCn ?_
            clear hK K
            (try simp only [Act.put, List.setIfInBounds_toArray, List.set_cons_zero, List.set_cons_succ])
            refine wpHold_one (k := 14) (by kernel_rfl) rfl (fun K hK => ?_)
            (try simp only [List.getElem_toArray, List.getElem_cons_succ, List.getElem_cons_zero])
            go_simp
            refine hK.out _ _ hCn ?_
            clear hK K
            (try simp only [Act.put, List.setIfInBounds_toArray, List.set_cons_zero, List.set_cons_succ])
            refine wpHold_done (by kernel_rfl) ?_ _
            clear hCn l0 l1 l2 k0 k1 k2 hWy e10 bd0 hWx r0 HJB KP1 KP2 KP3 KP4 KP5 hCA rA blA
            have hb0 := unhide HY_bd
            have X1 := unhide HX_bd
            have X0 := unhide HXC _ hb0
            have HCM := hide (cmpR_any _ _ _ _ Wbd X0.2 X1.2 (unhide HSC).1 (unhide HSD).1 (unhide HSC).2 (unhide HSD).2)
            obtain ⟨sg, hsg⟩ : ∃ s, Wd.sg ((lossV (pqs ps) (pq (x, y)) (pq (z, u)) m).num * (lossV (pqs ps) (pq (x, y)) (pq (z, u)) m').den) ((lossV (pqs ps) (pq (x, y)) (pq (z, u)) m').num * (lossV (pqs ps) (pq (x, y)) (pq (z, u)) m).den) = s := ⟨_, rfl⟩
            rw [hsg] at HCM
            have hle : sg ≤ 0 := by rw [← hsg]; exact cmp_le (unhide HLE m')
            obtain ⟨c0, c1, c2⟩ := X0.cells _ (Below.refl _ _)
            obtain ⟨d0, d1, d2⟩ := X1.cells _ (Below.refl _ _)
            have HYY := hide (unhide HBX _ hb0)
            simp only [Tri.val] at HCM
            clear hb0 X0 X1 HX_bd HY_bd HG_bd hsg
            go_wp2_with fail
            refine (unhide HCM).mono ?_
            rintro e w9 ⟨rfl, hb9⟩
            have HB9 := hide (below_step (unhide HYY) hb9)
            clear hb9 HCM c0 c1 c2 d0 d1 d2
            go_wp2
            go_ret
            exact ⟨rfl, unhide HB9⟩
end Go.Proofs.YtohkmkoklhnnlaaDoor
