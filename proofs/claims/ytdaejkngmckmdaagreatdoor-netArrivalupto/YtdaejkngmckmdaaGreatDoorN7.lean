/- Nets: how often one comes to each place; quotients. -/
import Derived.Test.YtdaejkngmckmdaaGreatDoorN6
namespace Go.Proofs.YtdaejkngmckmdaaGreatDoor
open Go.RowKit Go.Sort Go.Shelf

theorem sat_congr {n : Nat} {A B : Nat → Nat → Rat} (h : ∀ i j, i < n → j < n + 1 → A i j = B i j) (x : Nat → Rat) (t : Rat) : Lin.Sat n A x t ↔ Lin.Sat n B x t := by
  constructor
  · intro s i hi
    have := s i hi
    rw [h i n hi (by omega), Bth.ps_congr n (fun j hj => by rw [h i j hi (by omega)])] at this
    exact this
  · intro s i hi
    have := s i hi
    rw [← h i n hi (by omega), Bth.ps_congr n (fun j hj => by rw [← h i j hi (by omega)])] at this
    exact this
theorem solved_congr {n : Nat} {A B : Nat → Nat → Rat} (h : ∀ i j, i < n → j < n + 1 → A i j = B i j) {x : Nat → Rat} (s : Lin.Solved n A x) : Lin.Solved n B x :=
  ⟨(sat_congr h x 1).1 s.1, fun y hy => s.2 y ((sat_congr h y 0).2 hy)⟩
/-- Routes and what comes in, as functions. -/
def lf (ks : List (List Rat)) (i k : Nat) : Rat := (ks[i]!)[k]!
def bf (qs : List Rat) (k : Nat) : Rat := qs[k]!
/-- Row k of the equations, of which i places are written. -/
def vis (E l : Nat → Nat → Rat) (k i : Nat) : Nat → Nat → Rat := fun a b => if a = k then (if b < i then 0 - l b k else 0) else E a b
theorem vis_next (E l : Nat → Nat → Rat) (k i : Nat) : upm (vis E l k i) k i (0 - l i k) = vis E l k (i + 1) := by
  funext a b
  unfold upm vis
  by_cases h : a = k
  · by_cases h2 : b = i
    · rw [if_pos ⟨h, h2⟩, if_pos h, if_pos (by omega), h2]
    · rw [if_neg (fun x => h2 x.2), if_pos h, if_pos h]
      by_cases h3 : b < i
      · rw [if_pos h3, if_pos (by omega)]
      · rw [if_neg h3, if_neg (by omega)]
  · rw [if_neg (fun x => h x.1), if_neg h, if_neg h]
theorem vis_get (E l : Nat → Nat → Rat) {k i b : Nat} (h : i ≤ b) : vis E l k i k b = 0 := by unfold vis; rw [if_pos rfl, if_neg (by omega)]
theorem vis_all (n : Nat) (l : Nat → Nat → Rat) (b : Nat → Rat) {k : Nat} (hk : k < n) (i j : Nat) (hj : j < n) : upm (vis (Net.eqs n l b) l k n) k k (0 - l k k + ((1 : Int) : Rat)) i j = Net.eqs n l b i j := by
  unfold upm vis
  by_cases h : i = k
  · subst h
    by_cases h2 : j = i
    · subst h2
      rw [if_pos ⟨rfl, rfl⟩]
      unfold Net.eqs
      rw [if_pos hj, if_pos rfl]
      have : ((1 : Int) : Rat) = 1 := rfl
      rw [this]
      grind
    · rw [if_neg (fun x => h2 x.2), if_pos rfl, if_pos hj]
      unfold Net.eqs
      rw [if_pos hj, if_neg h2]
      grind
  · rw [if_neg (fun x => h x.1), if_neg h]
theorem eqs_RS {n : Nat} {l : Nat → Nat → Rat} {b : Nat → Rat} (hl : ∀ i k, i < n → k < n → RS (l i k) 1) (hb : ∀ k, k < n → RS (b k) 1) (k i : Nat) (hk : k < n) (_hi : i < n + 1) : RS (Net.eqs n l b k i) 5 := by
  unfold Net.eqs
  by_cases h : i < n
  · rw [if_pos h]
    by_cases h2 : i = k
    · rw [if_pos h2]; exact (one_RS'.sub' (hl i k h hk)).mono (by omega)
    · rw [if_neg h2]; exact (hl i k h hk).neg.mono (by omega)
  · rw [if_neg h]; exact (hb k hk).mono (by omega)

/-- How great the answers may be. -/
def XB : Nat := 4000000
theorem xb_small : ∀ n, n ≤ 5 → xb (sz 5 n) n ≤ XB ∧ 2 * xb (sz 5 n) n + 40 * sz 5 n + 50 ≤ KK := by
  intro n hn
  match n, hn with
  | 0, _ => decide
  | 1, _ => decide
  | 2, _ => decide
  | 3, _ => decide
  | 4, _ => decide
  | 5, _ => decide

/-- What visits says. -/
def VisitsPost (w : World) (n : Nat) (l : Nat → Nat → Rat) (b : Nat → Rat) (e : Ending) (w' : World) : Prop :=
  (∃ (v : Value) (x : Nat → Rat), e = .returned (.tuple #[v, .nilIface]) ∧ LawIs w' v (row x n) ∧ Lin.Solved n (Net.eqs n l b) x ∧ (∀ i, RS (x i) XB) ∧ Below w.heap.size w w') ∨
  ((∃ y, Lin.Sat n (Net.eqs n l b) y 0 ∧ ∃ i, i < n ∧ y i = 1) ∧ e = .returned (.tuple #[.slice none 0 0, .iface 62 (.int .i64 8)]) ∧ Below w.heap.size w w')

set_option maxHeartbeats 8000000 in
set_option maxRecDepth 100000 in
set_option linter.unusedSimpArgs false in
theorem visits_any (vi vl : Value) (ks : List (List Rat)) (qs : List Rat) (w : World) (n : Nat) (h : RowsAre w vl ks) (hq : LawIs w vi qs) (hn : ks.length = n) (hs : ∀ j, j < n → (ks[j]!).length = n) (hql : qs.length = n) (hn2 : n ≤ 5)
    (hR : ∀ i k, i < n → k < n → RS (lf ks i k) 1) (hRq : ∀ k, k < n → RS (bf qs k) 1) :
    Calls Tryz.prog 42 #[vi, vl] w (VisitsPost w n (lf ks) (bf qs)) := by
  have KKe : KK = 1099511627776 := rfl
  have HQ := hide hq
  obtain ⟨a, c, rfl, h1, h2, h3⟩ := h
  obtain ⟨aq, cq, rfl, q1, q2, q3⟩ := hq
  rw [hn] at h1 h3 ⊢
  have H3 := hide h3
  have HS := hide hs
  have HR := hide hR
  have HRQ := hide hRq
  have HQL := hide hql
  have HSV : Hid (∀ W G bs uss, MatAt w W G n n n bs uss (Net.eqs n (lf ks) (bf qs)) → Calls Tryz.prog 60 #[.slice (some ⟨G, 0, none⟩) n n, .slice aq qs.length cq] W (SolvePost W n (Net.eqs n (lf ks) (bf qs)) XB)) := fun W G bs uss hM => by
    have hae : ∀ i j, i < n → j < n + 1 → aug (mrows n n (Net.eqs n (lf ks) (bf qs))) qs n i j = Net.eqs n (lf ks) (bf qs) i j := fun i j hi hj => by
      unfold aug
      by_cases e : j < n
      · rw [if_pos e, mrows_get hi, row_get e]
      · obtain rfl : j = n := by omega
        rw [if_neg e, Net.eqs_right]
        rfl
    refine (solve_any _ _ (mrows n n (Net.eqs n (lf ks) (bf qs))) qs W n 5 (hM.rows (by omega) (by omega)) ((unhide HQ).below hM.bl) (mrows_length _ _ _) (fun j hj => by rw [mrows_get hj, row_length]) (unhide HQL) (by omega) (fun i j hi hj => by rw [hae i j hi hj]; exact eqs_RS (unhide HR) (unhide HRQ) i j hi hj) (xb_small n hn2).2).mono ?_
    rintro e w' (⟨v, x, rfl, hv, hx, hr, hb⟩ | ⟨⟨y, hy, i, hi, hy1⟩, rfl, hb⟩)
    · exact Or.inl ⟨v, x, rfl, hv, solved_congr hae hx, fun i => (hr i).mono (xb_small n hn2).1, hb⟩
    · exact Or.inr ⟨⟨y, (sat_congr hae y 0).1 hy, i, hi, hy1⟩, rfl, hb⟩
  obtain ⟨E, hE⟩ : ∃ E, Net.eqs n (lf ks) (bf qs) = E := ⟨_, rfl⟩
  have HE := hide hE
  obtain ⟨nq, hnq⟩ : ∃ m, qs.length = m := ⟨_, rfl⟩
  rw [hnq] at HSV ⊢
  have qmk := make_rows (n : Int) (by omega) (by omega) (inB n (fun _ => 0)) w
  rw [Int.toNat_natCast] at qmk
  have S0 := MatAt.start w w n n (fun _ => 0) (fun _ => []) E (Below.refl _ _)
  obtain ⟨W0, hW0⟩ : ∃ W, w.alloc (.cells (hdl n 0 (inB n (fun _ => 0))).toArray 26) = W := ⟨_, rfl⟩
  obtain ⟨G, hG⟩ : ∃ G, w.heap.size = G := ⟨_, rfl⟩
  rw [hW0, hG] at qmk S0
  have HS0 := hide S0
  clear S0 hW0 hG h3 q3 hs hn hql hnq hE hR hRq
  go_enter Tryz.func42, Tryz.ntmps42
  go_wp2_with fail
  clear qmk
  go_loopw [17] (fun vi wr => ∃ (k : Nat) (bs : Nat → Nat) (uss : Nat → List Tri), vi = .int .i64 (k : Int) ∧ k ≤ n ∧ MatAt w wr G n k n bs uss E) (fun vi _ => n - (intOf vi).toNat)
  case atStart => exact ⟨0, _, _, rfl, Nat.zero_le _, unhide HS0⟩
  case round =>
    obtain ⟨k, bs, uss, rfl, hk, hM⟩ := hrel
    clear HS0
    have HM := hide hM
    by_cases hlt : k < n
    · have P1 := hM.push hlt
      have qm2 := make_ratios (n : Int) (by omega) (by omega) wr
      rw [Int.toNat_natCast] at qm2
      have kz := hdl_cell0 (hM.keep (alloc_below wr (.cells (tcells (List.replicate n zTri)).toArray 39))).out (Nat.le_refl k) hlt
      have kf := hdl_free (hM.keep (alloc_below wr (.cells (tcells (List.replicate n zTri)).toArray 39))).out k
      obtain ⟨W1, hW1⟩ : ∃ W, wr.alloc (.cells (tcells (List.replicate n zTri)).toArray 39) = W := ⟨_, rfl⟩
      obtain ⟨g, hg⟩ : ∃ g, wr.heap.size = g := ⟨_, rfl⟩
      rw [hW1, hg] at P1 qm2
      rw [hW1] at kz kf
      obtain ⟨W2, hW2⟩ : ∃ W, W1.setCell ⟨G, k, none⟩ (.slice (some ⟨g, 0, none⟩) n n) = W := ⟨_, rfl⟩
      rw [hW2] at P1
      have P2 := P1.congr (N := vis E (lf ks) k 0) (fun a b ha hb => by unfold vis; by_cases e : a = k <;> simp [e])
      have hbk : (fun i => if i = k then g else bs i) k = g := by simp
      obtain ⟨bs2, hbs2⟩ : ∃ f, (fun i => if i = k then g else bs i) = f := ⟨_, rfl⟩
      rw [hbs2] at P2 hbk
      have HP2 := hide P2
      have HBK := hide hbk
      have e1 : (k : Int) < (n : Int) := by omega
      have e0 : (0 : Int) ≤ (k : Int) := by omega
      clear hM P1 P2 hbk hbs2 HM
      go_wp2_with fail
      clear hW1 hW2 hg qm2 kz kf
      go_loopw [26] (fun vi wr => ∃ (i : Nat) (us : Nat → List Tri), vi = .int .i64 (i : Int) ∧ i ≤ n ∧ MatAt w wr G n (k + 1) n bs2 us (vis E (lf ks) k i)) (fun vi _ => n - (intOf vi).toNat)
      case atStart => exact ⟨0, _, rfl, Nat.zero_le _, unhide HP2⟩
      case round =>
        obtain ⟨i, us, rfl, hi, hM⟩ := hrel
        clear HP2
        have HM := hide hM
        have kh := hM.head (i := k) (by omega) (by omega)
        have hkl := hM.lt (i := k) (by omega)
        rw [unhide HBK] at kh hkl
        have hGl := hM.ltG
        by_cases hlt2 : i < n
        · have ⟨⟨c0, c1, c2⟩, _⟩ := hM.cells (i := k) (j := i) (by omega) hlt2
          have ra := hM.rat k i (by omega) hlt2
          rw [vis_get E (lf ks) (Nat.le_refl i)] at ra
          obtain ⟨ta, hta⟩ : ∃ t, (us k)[i]! = t := ⟨_, rfl⟩
          rw [hta, unhide HBK] at c0 c1 c2
          rw [hta] at ra
          obtain ⟨b, o, rfl, hblt, hcs⟩ := unhide H3 (by omega)
          obtain ⟨l, k0, hl⟩ := hcs i hlt2
          have hln : l.n = n := by rw [law_len hl]; exact unhide HS i hlt2
          have hLn := unhide HS i hlt2
          obtain ⟨al, cl', hle, l1, l2, l3⟩ := hl
          obtain ⟨bl, ol, rfl, hbl, hcl⟩ := l3 (by omega)
          have ela : l.a = some ⟨bl, ol, none⟩ := by injection hle
          rw [hln, ela] at k0
          obtain ⟨xs, xp1, xp2, xn1, xd1, xn2, xd2, xk0, xk1, xk2, xr⟩ := hcl k (by omega)
          obtain ⟨tl, rfl, rfl, rfl, rfl, rfl, rfl, rfl⟩ : ∃ t : Tri, xs = t.s ∧ xp1 = t.a1 ∧ xp2 = t.a2 ∧ xn1 = t.n1 ∧ xd1 = t.c1 ∧ xn2 = t.n2 ∧ xd2 = t.c2 := ⟨⟨xs, xp1, xp2, xn1, xd1, xn2, xd2⟩, rfl, rfl, rfl, rfl, rfl, rfl, rfl⟩
          have HRL := hide (xr.below hM.bl)
          have HRA := hide ra
          obtain ⟨lc, hlc⟩ : ∃ c, l.c = c := ⟨_, rfl⟩
          rw [hlc] at k0
          have hbM := hide hM.bl
          have HCC : Hid (∀ W, Below wr.heap.size wr W → (fun w' : World => w'.cell? ⟨G, k, none⟩ = some (.slice (some ⟨g, 0, none⟩) n n) ∧ (w'.cell? ⟨g, i * 3, none⟩ = some (.bool ta.s) ∧ w'.cell? ⟨g, i * 3 + 1, none⟩ = some (.slice ta.a1 ta.n1 ta.c1) ∧ w'.cell? ⟨g, i * 3 + 2, none⟩ = some (.slice ta.a2 ta.n2 ta.c2)) ∧ w'.cell? ⟨b, o + i, none⟩ = some (.slice (some ⟨bl, ol, none⟩) n lc) ∧ (w'.cell? ⟨bl, ol + k * 3, none⟩ = some (.bool tl.s) ∧ w'.cell? ⟨bl, ol + k * 3 + 1, none⟩ = some (.slice tl.a1 tl.n1 tl.c1) ∧ w'.cell? ⟨bl, ol + k * 3 + 2, none⟩ = some (.slice tl.a2 tl.n2 tl.c2))) W) := fun W hW => by
            have bc := below_step (unhide hbM) hW
            refine ⟨by rw [hW.cell (p := ⟨G, k, none⟩) hGl]; exact kh, ?_, by rw [bc.cell (p := ⟨b, o + i, none⟩) hblt]; exact k0, ?_⟩
            · rw [hW.cell (p := ⟨g, i * 3, none⟩) hkl, hW.cell (p := ⟨g, i * 3 + 1, none⟩) hkl, hW.cell (p := ⟨g, i * 3 + 2, none⟩) hkl]; exact ⟨c0, c1, c2⟩
            · rw [bc.cell (p := ⟨bl, ol + k * 3, none⟩) hbl, bc.cell (p := ⟨bl, ol + k * 3 + 1, none⟩) hbl, bc.cell (p := ⟨bl, ol + k * 3 + 2, none⟩) hbl]; exact ⟨xk0, xk1, xk2⟩
          have HSU : Hid (∀ W, Below wr.heap.size wr W → Calls Tryz.prog 16 #[.agg #[.bool ta.s, .slice ta.a1 ta.n1 ta.c1, .slice ta.a2 ta.n2 ta.c2], .agg #[.bool tl.s, .slice tl.a1 tl.n1 tl.c1, .slice tl.a2 tl.n2 tl.c2]] W fun e w' => ∃ v, e = .returned v ∧ RatIs w' v (0 - lf ks i k) ∧ Below W.heap.size W w') := fun W hW => subR_any ta.val tl.val _ _ W ((unhide HRA).below hW) ((unhide HRL).below hW) 1 RS.zero (unhide HR i k hlt2 hlt) (by rw [KKe]; omega)
          have e2 : (i : Int) < (n : Int) := by omega
          have e3 : (0 : Int) ≤ (i : Int) := by omega
          have e1 : (k : Int) < (n : Int) := by omega
          have e0 : (0 : Int) ≤ (k : Int) := by omega
          clear hM ra hta c0 c1 c2 hcs hle l3 hcl xr xk0 xk1 xk2 k0 hln hLn ela kh hkl hGl hlc
          go_wp2_with fail
          refine wp_region_till (fun w' : World => w'.cell? ⟨G, k, none⟩ = some (.slice (some ⟨g, 0, none⟩) n n) ∧ (w'.cell? ⟨g, i * 3, none⟩ = some (.bool ta.s) ∧ w'.cell? ⟨g, i * 3 + 1, none⟩ = some (.slice ta.a1 ta.n1 ta.c1) ∧ w'.cell? ⟨g, i * 3 + 2, none⟩ = some (.slice ta.a2 ta.n2 ta.c2)) ∧ w'.cell? ⟨b, o + i, none⟩ = some (.slice (some ⟨bl, ol, none⟩) n lc) ∧ (w'.cell? ⟨bl, ol + k * 3, none⟩ = some (.bool tl.s) ∧ w'.cell? ⟨bl, ol + k * 3 + 1, none⟩ = some (.slice tl.a1 tl.n1 tl.c1) ∧ w'.cell? ⟨bl, ol + k * 3 + 2, none⟩ = some (.slice tl.a2 tl.n2 tl.c2))) 21 (by kernel_rfl) ?_
          have bd0 : Below wr.heap.size wr wr.drew := (Below.refl _ _).drew
          have hC0 : (fun w' : World => w'.cell? ⟨G, k, none⟩ = some (.slice (some ⟨g, 0, none⟩) n n) ∧ (w'.cell? ⟨g, i * 3, none⟩ = some (.bool ta.s) ∧ w'.cell? ⟨g, i * 3 + 1, none⟩ = some (.slice ta.a1 ta.n1 ta.c1) ∧ w'.cell? ⟨g, i * 3 + 2, none⟩ = some (.slice ta.a2 ta.n2 ta.c2)) ∧ w'.cell? ⟨b, o + i, none⟩ = some (.slice (some ⟨bl, ol, none⟩) n lc) ∧ (w'.cell? ⟨bl, ol + k * 3, none⟩ = some (.bool tl.s) ∧ w'.cell? ⟨bl, ol + k * 3 + 1, none⟩ = some (.slice tl.a1 tl.n1 tl.c1) ∧ w'.cell? ⟨bl, ol + k * 3 + 2, none⟩ = some (.slice tl.a2 tl.n2 tl.c2))) wr.drew := unhide HCC _ bd0
          refine wpTill_pure (i := 0) (v := ?_) rfl (by kernel_rfl) (by kernel_rfl) (by kernel_rfl) (by kernel_rfl) (fun _ _ _ h => h) (Or.inl ⟨by rfl, ?_⟩) (fun _ => hC0) ?_
          rotate_left
          · intro w hSw; clear hSw; go_simp; (try with_reducible rfl)
          (try simp only [List.getElem_toArray, List.getElem_cons_succ, List.getElem_cons_zero])
          (try simp only [Act.put, List.setIfInBounds_toArray, List.set_cons_zero, List.set_cons_succ])
          refine wpTill_pure (i := 1) (v := ?_) rfl (by kernel_rfl) (by kernel_rfl) (by kernel_rfl) (by kernel_rfl) (fun _ _ _ h => h) (Or.inl ⟨by rfl, ?_⟩) (fun _ => hC0) ?_
          rotate_left
          · intro w hSw; clear hSw; go_simp; (try with_reducible rfl)
          (try simp only [List.getElem_toArray, List.getElem_cons_succ, List.getElem_cons_zero])
          (try simp only [Act.put, List.setIfInBounds_toArray, List.set_cons_zero, List.set_cons_succ])
          refine wpTill_pure (i := 2) (v := ?_) rfl (by kernel_rfl) (by kernel_rfl) (by kernel_rfl) (by kernel_rfl) (fun _ _ _ h => h) (Or.inl ⟨by rfl, ?_⟩) (fun _ => hC0) ?_
          rotate_left
          · intro w hSw; clear hSw; go_simp; (try with_reducible rfl)
          (try simp only [List.getElem_toArray, List.getElem_cons_succ, List.getElem_cons_zero])
          (try simp only [Act.put, List.setIfInBounds_toArray, List.set_cons_zero, List.set_cons_succ])
          refine wpTill_take (i := 3) (v := ?_) rfl (by kernel_rfl) (by kernel_rfl) (by kernel_rfl) (by kernel_rfl) (by kernel_rfl) (by kernel_rfl) (fun _ _ _ h => h) (Or.inl ⟨by rfl, ?_⟩) hC0 ?_
          rotate_left
          · intro w hSw; (try dsimp only at hSw); obtain ⟨z0, ⟨z1, z2, z3⟩, z4, z5, z6, z7⟩ := hSw; go_simp; (try with_reducible rfl)
          (try simp only [List.getElem_toArray, List.getElem_cons_succ, List.getElem_cons_zero])
          (try simp only [Act.put, List.setIfInBounds_toArray, List.set_cons_zero, List.set_cons_succ])
          refine wpTill_pure (i := 4) (v := ?_) rfl (by kernel_rfl) (by kernel_rfl) (by kernel_rfl) (by kernel_rfl) (fun _ _ _ h => h) (Or.inl ⟨by rfl, ?_⟩) (fun _ => hC0) ?_
          rotate_left
          · intro w hSw; clear hSw; go_simp; (try with_reducible rfl)
          (try simp only [List.getElem_toArray, List.getElem_cons_succ, List.getElem_cons_zero])
          (try simp only [Act.put, List.setIfInBounds_toArray, List.set_cons_zero, List.set_cons_succ])
          refine wpTill_pure (i := 5) (v := ?_) rfl (by kernel_rfl) (by kernel_rfl) (by kernel_rfl) (by kernel_rfl) (fun _ _ _ h => h) (Or.inl ⟨by rfl, ?_⟩) (fun _ => hC0) ?_
          rotate_left
          · intro w hSw; clear hSw; go_simp; (try with_reducible rfl)
          (try simp only [List.getElem_toArray, List.getElem_cons_succ, List.getElem_cons_zero])
          (try simp only [Act.put, List.setIfInBounds_toArray, List.set_cons_zero, List.set_cons_succ])
          refine wpTill_pure (i := 6) (v := ?_) rfl (by kernel_rfl) (by kernel_rfl) (by kernel_rfl) (by kernel_rfl) (fun _ _ _ h => h) (Or.inl ⟨by rfl, ?_⟩) (fun _ => hC0) ?_
          rotate_left
          · intro w hSw; clear hSw; go_simp; (try with_reducible rfl)
          (try simp only [List.getElem_toArray, List.getElem_cons_succ, List.getElem_cons_zero])
          (try simp only [Act.put, List.setIfInBounds_toArray, List.set_cons_zero, List.set_cons_succ])
          refine wpTill_pure (i := 7) (v := ?_) rfl (by kernel_rfl) (by kernel_rfl) (by kernel_rfl) (by kernel_rfl) (fun _ _ _ h => h) (Or.inl ⟨by rfl, ?_⟩) (fun _ => hC0) ?_
          rotate_left
          · intro w hSw; clear hSw; go_simp; (try with_reducible rfl)
          (try simp only [List.getElem_toArray, List.getElem_cons_succ, List.getElem_cons_zero])
          (try simp only [Act.put, List.setIfInBounds_toArray, List.set_cons_zero, List.set_cons_succ])
          refine wpTill_take (i := 8) (v := ?_) rfl (by kernel_rfl) (by kernel_rfl) (by kernel_rfl) (by kernel_rfl) (by kernel_rfl) (by kernel_rfl) (fun _ _ _ h => h) (Or.inl ⟨by rfl, ?_⟩) hC0 ?_
          rotate_left
          · intro w hSw; (try dsimp only at hSw); obtain ⟨z0, ⟨z1, z2, z3⟩, z4, z5, z6, z7⟩ := hSw; go_simp; (try with_reducible rfl)
          (try simp only [List.getElem_toArray, List.getElem_cons_succ, List.getElem_cons_zero])
          (try simp only [Act.put, List.setIfInBounds_toArray, List.set_cons_zero, List.set_cons_succ])
          refine wpTill_pure (i := 9) (v := ?_) rfl (by kernel_rfl) (by kernel_rfl) (by kernel_rfl) (by kernel_rfl) (fun _ _ _ h => h) (Or.inl ⟨by rfl, ?_⟩) (fun _ => hC0) ?_
          rotate_left
          · intro w hSw; clear hSw; go_simp; (try with_reducible rfl)
          (try simp only [List.getElem_toArray, List.getElem_cons_succ, List.getElem_cons_zero])
          (try simp only [Act.put, List.setIfInBounds_toArray, List.set_cons_zero, List.set_cons_succ])
          refine wpTill_pure (i := 10) (v := ?_) rfl (by kernel_rfl) (by kernel_rfl) (by kernel_rfl) (by kernel_rfl) (fun _ _ _ h => h) (Or.inl ⟨by rfl, ?_⟩) (fun _ => hC0) ?_
          rotate_left
          · intro w hSw; clear hSw; go_simp; (try with_reducible rfl)
          (try simp only [List.getElem_toArray, List.getElem_cons_succ, List.getElem_cons_zero])
          (try simp only [Act.put, List.setIfInBounds_toArray, List.set_cons_zero, List.set_cons_succ])
          refine wpTill_take (i := 11) (v := ?_) rfl (by kernel_rfl) (by kernel_rfl) (by kernel_rfl) (by kernel_rfl) (by kernel_rfl) (by kernel_rfl) (fun _ _ _ h => h) (Or.inl ⟨by rfl, ?_⟩) hC0 ?_
          rotate_left
          · intro w hSw; (try dsimp only at hSw); obtain ⟨z0, ⟨z1, z2, z3⟩, z4, z5, z6, z7⟩ := hSw; go_simp; (try with_reducible rfl)
          (try simp only [List.getElem_toArray, List.getElem_cons_succ, List.getElem_cons_zero])
          (try simp only [Act.put, List.setIfInBounds_toArray, List.set_cons_zero, List.set_cons_succ])
          refine wpTill_pure (i := 12) (v := ?_) rfl (by kernel_rfl) (by kernel_rfl) (by kernel_rfl) (by kernel_rfl) (fun _ _ _ h => h) (Or.inl ⟨by rfl, ?_⟩) (fun _ => hC0) ?_
          rotate_left
          · intro w hSw; clear hSw; go_simp; (try with_reducible rfl)
          (try simp only [List.getElem_toArray, List.getElem_cons_succ, List.getElem_cons_zero])
          (try simp only [Act.put, List.setIfInBounds_toArray, List.set_cons_zero, List.set_cons_succ])
          refine wpTill_pure (i := 13) (v := ?_) rfl (by kernel_rfl) (by kernel_rfl) (by kernel_rfl) (by kernel_rfl) (fun _ _ _ h => h) (Or.inl ⟨by rfl, ?_⟩) (fun _ => hC0) ?_
          rotate_left
          · intro w hSw; clear hSw; go_simp; (try with_reducible rfl)
          (try simp only [List.getElem_toArray, List.getElem_cons_succ, List.getElem_cons_zero])
          (try simp only [Act.put, List.setIfInBounds_toArray, List.set_cons_zero, List.set_cons_succ])
          refine wpTill_pure (i := 14) (v := ?_) rfl (by kernel_rfl) (by kernel_rfl) (by kernel_rfl) (by kernel_rfl) (fun _ _ _ h => h) (Or.inl ⟨by rfl, ?_⟩) (fun _ => hC0) ?_
          rotate_left
          · intro w hSw; clear hSw; go_simp; (try with_reducible rfl)
          (try simp only [List.getElem_toArray, List.getElem_cons_succ, List.getElem_cons_zero])
          (try simp only [Act.put, List.setIfInBounds_toArray, List.set_cons_zero, List.set_cons_succ])
          refine wpTill_take (i := 15) (v := ?_) rfl (by kernel_rfl) (by kernel_rfl) (by kernel_rfl) (by kernel_rfl) (by kernel_rfl) (by kernel_rfl) (fun _ _ _ h => h) (Or.inl ⟨by rfl, ?_⟩) hC0 ?_
          rotate_left
          · intro w hSw; (try dsimp only at hSw); obtain ⟨z0, ⟨z1, z2, z3⟩, z4, z5, z6, z7⟩ := hSw; go_simp; (try with_reducible rfl)
          (try simp only [List.getElem_toArray, List.getElem_cons_succ, List.getElem_cons_zero])
          (try simp only [Act.put, List.setIfInBounds_toArray, List.set_cons_zero, List.set_cons_succ])
          refine wpTill_pure (i := 16) (v := ?_) rfl (by kernel_rfl) (by kernel_rfl) (by kernel_rfl) (by kernel_rfl) (fun _ _ _ h => h) (Or.inl ⟨by rfl, ?_⟩) (fun _ => hC0) ?_
          rotate_left
          · intro w hSw; clear hSw; go_simp; (try with_reducible rfl)
          (try simp only [List.getElem_toArray, List.getElem_cons_succ, List.getElem_cons_zero])
          (try simp only [Act.put, List.setIfInBounds_toArray, List.set_cons_zero, List.set_cons_succ])
          refine wpTill_pure (i := 17) (v := ?_) rfl (by kernel_rfl) (by kernel_rfl) (by kernel_rfl) (by kernel_rfl) (fun _ _ _ h => h) (Or.inl ⟨by rfl, ?_⟩) (fun _ => hC0) ?_
          rotate_left
          · intro w hSw; clear hSw; go_simp; (try with_reducible rfl)
          (try simp only [List.getElem_toArray, List.getElem_cons_succ, List.getElem_cons_zero])
          (try simp only [Act.put, List.setIfInBounds_toArray, List.set_cons_zero, List.set_cons_succ])
          refine wpTill_take (i := 18) (v := ?_) rfl (by kernel_rfl) (by kernel_rfl) (by kernel_rfl) (by kernel_rfl) (by kernel_rfl) (by kernel_rfl) (fun _ _ _ h => h) (Or.inl ⟨by rfl, ?_⟩) hC0 ?_
          rotate_left
          · intro w hSw; (try dsimp only at hSw); obtain ⟨z0, ⟨z1, z2, z3⟩, z4, z5, z6, z7⟩ := hSw; go_simp; (try with_reducible rfl)
          (try simp only [List.getElem_toArray, List.getElem_cons_succ, List.getElem_cons_zero])
          (try simp only [Act.put, List.setIfInBounds_toArray, List.set_cons_zero, List.set_cons_succ])
          refine wpTill_one (k := 19) (by kernel_rfl) rfl (fun K hK => ?_)
          (try simp only [List.getElem_toArray, List.getElem_cons_succ, List.getElem_cons_zero])
          go_simp
          refine (unhide HSU _ bd0).mono ?_
          rintro e xw_1 ⟨xv_1, rfl, hv_1, hb_1⟩
          have cc_1 := below_step bd0 hb_1
          have hC_1 : (fun w' : World => w'.cell? ⟨G, k, none⟩ = some (.slice (some ⟨g, 0, none⟩) n n) ∧ (w'.cell? ⟨g, i * 3, none⟩ = some (.bool ta.s) ∧ w'.cell? ⟨g, i * 3 + 1, none⟩ = some (.slice ta.a1 ta.n1 ta.c1) ∧ w'.cell? ⟨g, i * 3 + 2, none⟩ = some (.slice ta.a2 ta.n2 ta.c2)) ∧ w'.cell? ⟨b, o + i, none⟩ = some (.slice (some ⟨bl, ol, none⟩) n lc) ∧ (w'.cell? ⟨bl, ol + k * 3, none⟩ = some (.bool tl.s) ∧ w'.cell? ⟨bl, ol + k * 3 + 1, none⟩ = some (.slice tl.a1 tl.n1 tl.c1) ∧ w'.cell? ⟨bl, ol + k * 3 + 2, none⟩ = some (.slice tl.a2 tl.n2 tl.c2))) xw_1 := unhide HCC _ cc_1
          refine hK.out _ _ (fun _ => hC_1) ?_
          clear hK K
          (try simp only [Act.put, List.setIfInBounds_toArray, List.set_cons_zero, List.set_cons_succ])
          refine wpTill_pure (i := 20) (v := ?_) rfl (by kernel_rfl) (by kernel_rfl) (by kernel_rfl) (by kernel_rfl) (fun _ _ _ h => h) (Or.inl ⟨by rfl, ?_⟩) (fun _ => hC_1) ?_
          rotate_left
          · intro w hSw; clear hSw; go_simp; (try with_reducible rfl)
          (try simp only [List.getElem_toArray, List.getElem_cons_succ, List.getElem_cons_zero])
          (try simp only [Act.put, List.setIfInBounds_toArray, List.set_cons_zero, List.set_cons_succ])
          obtain ⟨tn, rfl, rn⟩ := tri_of hv_1
          simp only [Tri.val]
          have S8 := (unhide HM).keep cc_1
          have ⟨⟨y0, y1, y2⟩, f0, f1, f2⟩ := S8.cells (i := k) (j := i) (by omega) (by omega)
          have FZ := S8.set (i := k) (j := i) (by omega) (by omega) tn _ rn
          rw [vis_next] at FZ
          rw [unhide HBK] at y0 y1 y2 f0 f1 f2 FZ
          obtain ⟨W9, hW9⟩ : ∃ W, ((xw_1.setCell ⟨g, i * 3, none⟩ (.bool tn.s)).setCell ⟨g, i * 3 + 1, none⟩ (.slice tn.a1 tn.n1 tn.c1)).setCell ⟨g, i * 3 + 2, none⟩ (.slice tn.a2 tn.n2 tn.c2) = W := ⟨_, rfl⟩
          rw [hW9] at FZ
          have HFM := hide FZ
          clear S8 FZ rn
          refine wpTill_one (k := 21) (by kernel_rfl) rfl (fun K hK => ?_)
          (try simp only [List.getElem_toArray, List.getElem_cons_succ, List.getElem_cons_zero])
          go_simp
          refine hK.out _ _ (fun h => absurd (h.symm.trans (by kernel_rfl)) Bool.false_ne_true) ?_
          clear hK K
          (try simp only [Act.put, List.setIfInBounds_toArray, List.set_cons_zero, List.set_cons_succ])
          refine wpTill_done (by kernel_rfl) ?_ _
          clear y0 y1 y2 f0 f1 f2 hW9 hC0 hC_1 cc_1 bd0 HCC HSU HM HRA HRL hbM
          go_wp2_with fail
          exact ⟨⟨i + 1, _, by go_num, hlt2, unhide HFM⟩, by simp [intOf]; omega⟩
        · obtain rfl : i = n := by omega
          have ⟨⟨c0, c1, c2⟩, _⟩ := hM.cells (i := k) (j := k) (by omega) hlt
          have ra := hM.rat k k (by omega) hlt
          have ev : vis E (lf ks) k i k k = 0 - lf ks k k := by unfold vis; rw [if_pos rfl, if_pos hlt]
          rw [ev] at ra
          obtain ⟨ta, hta⟩ : ∃ t, (us k)[k]! = t := ⟨_, rfl⟩
          rw [hta, unhide HBK] at c0 c1 c2
          rw [hta] at ra
          have HRA := hide ra
          have HCC : Hid (∀ W, Below wr.heap.size wr W → (fun w' : World => w'.cell? ⟨G, k, none⟩ = some (.slice (some ⟨g, 0, none⟩) i i) ∧ (w'.cell? ⟨g, k * 3, none⟩ = some (.bool ta.s) ∧ w'.cell? ⟨g, k * 3 + 1, none⟩ = some (.slice ta.a1 ta.n1 ta.c1) ∧ w'.cell? ⟨g, k * 3 + 2, none⟩ = some (.slice ta.a2 ta.n2 ta.c2))) W) := fun W hW => by
            refine ⟨by rw [hW.cell (p := ⟨G, k, none⟩) hGl]; exact kh, ?_⟩
            rw [hW.cell (p := ⟨g, k * 3, none⟩) hkl, hW.cell (p := ⟨g, k * 3 + 1, none⟩) hkl, hW.cell (p := ⟨g, k * 3 + 2, none⟩) hkl]; exact ⟨c0, c1, c2⟩
          have HAD : Hid (∀ W v, Below wr.heap.size wr W → RatIs W v ((1 : Int) : Rat) → Calls Tryz.prog 14 #[.agg #[.bool ta.s, .slice ta.a1 ta.n1 ta.c1, .slice ta.a2 ta.n2 ta.c2], v] W fun e w' => ∃ v, e = .returned v ∧ RatIs w' v (0 - lf ks k k + ((1 : Int) : Rat)) ∧ Below W.heap.size W w') := fun W v hW hv => addR_any ta.val v _ _ W ((unhide HRA).below hW) hv 3 ((RS.zero.sub' (unhide HR k k hlt hlt)).mono (by omega)) (onei_RS.mono (by omega)) (by rw [KKe]; omega)
          have e2 : ¬ (i : Int) < (i : Int) := by omega
          have e1 : (k : Int) < (i : Int) := by omega
          have e0 : (0 : Int) ≤ (k : Int) := by omega
          clear hM ra ev hta c0 c1 c2 kh hkl hGl
          go_wp2_with fail
          refine wp_region_till (fun w' : World => w'.cell? ⟨G, k, none⟩ = some (.slice (some ⟨g, 0, none⟩) i i) ∧ (w'.cell? ⟨g, k * 3, none⟩ = some (.bool ta.s) ∧ w'.cell? ⟨g, k * 3 + 1, none⟩ = some (.slice ta.a1 ta.n1 ta.c1) ∧ w'.cell? ⟨g, k * 3 + 2, none⟩ = some (.slice ta.a2 ta.n2 ta.c2))) 15 (by kernel_rfl) ?_
          have bd0 : Below wr.heap.size wr wr.drew := (Below.refl _ _).drew
          have hC0 : (fun w' : World => w'.cell? ⟨G, k, none⟩ = some (.slice (some ⟨g, 0, none⟩) i i) ∧ (w'.cell? ⟨g, k * 3, none⟩ = some (.bool ta.s) ∧ w'.cell? ⟨g, k * 3 + 1, none⟩ = some (.slice ta.a1 ta.n1 ta.c1) ∧ w'.cell? ⟨g, k * 3 + 2, none⟩ = some (.slice ta.a2 ta.n2 ta.c2))) wr.drew := unhide HCC _ bd0
          refine wpTill_pure (i := 0) (v := ?_) rfl (by kernel_rfl) (by kernel_rfl) (by kernel_rfl) (by kernel_rfl) (fun _ _ _ h => h) (Or.inl ⟨by rfl, ?_⟩) (fun _ => hC0) ?_
          rotate_left
          · intro w hSw; clear hSw; go_simp; (try with_reducible rfl)
          (try simp only [List.getElem_toArray, List.getElem_cons_succ, List.getElem_cons_zero])
          (try simp only [Act.put, List.setIfInBounds_toArray, List.set_cons_zero, List.set_cons_succ])
          refine wpTill_pure (i := 1) (v := ?_) rfl (by kernel_rfl) (by kernel_rfl) (by kernel_rfl) (by kernel_rfl) (fun _ _ _ h => h) (Or.inl ⟨by rfl, ?_⟩) (fun _ => hC0) ?_
          rotate_left
          · intro w hSw; clear hSw; go_simp; (try with_reducible rfl)
          (try simp only [List.getElem_toArray, List.getElem_cons_succ, List.getElem_cons_zero])
          (try simp only [Act.put, List.setIfInBounds_toArray, List.set_cons_zero, List.set_cons_succ])
          refine wpTill_pure (i := 2) (v := ?_) rfl (by kernel_rfl) (by kernel_rfl) (by kernel_rfl) (by kernel_rfl) (fun _ _ _ h => h) (Or.inl ⟨by rfl, ?_⟩) (fun _ => hC0) ?_
          rotate_left
          · intro w hSw; clear hSw; go_simp; (try with_reducible rfl)
          (try simp only [List.getElem_toArray, List.getElem_cons_succ, List.getElem_cons_zero])
          (try simp only [Act.put, List.setIfInBounds_toArray, List.set_cons_zero, List.set_cons_succ])
          refine wpTill_take (i := 3) (v := ?_) rfl (by kernel_rfl) (by kernel_rfl) (by kernel_rfl) (by kernel_rfl) (by kernel_rfl) (by kernel_rfl) (fun _ _ _ h => h) (Or.inl ⟨by rfl, ?_⟩) hC0 ?_
          rotate_left
          · intro w hSw; (try dsimp only at hSw); obtain ⟨z0, z1, z2, z3⟩ := hSw; go_simp; (try with_reducible rfl)
          (try simp only [List.getElem_toArray, List.getElem_cons_succ, List.getElem_cons_zero])
          (try simp only [Act.put, List.setIfInBounds_toArray, List.set_cons_zero, List.set_cons_succ])
          refine wpTill_pure (i := 4) (v := ?_) rfl (by kernel_rfl) (by kernel_rfl) (by kernel_rfl) (by kernel_rfl) (fun _ _ _ h => h) (Or.inl ⟨by rfl, ?_⟩) (fun _ => hC0) ?_
          rotate_left
          · intro w hSw; clear hSw; go_simp; (try with_reducible rfl)
          (try simp only [List.getElem_toArray, List.getElem_cons_succ, List.getElem_cons_zero])
          (try simp only [Act.put, List.setIfInBounds_toArray, List.set_cons_zero, List.set_cons_succ])
          refine wpTill_pure (i := 5) (v := ?_) rfl (by kernel_rfl) (by kernel_rfl) (by kernel_rfl) (by kernel_rfl) (fun _ _ _ h => h) (Or.inl ⟨by rfl, ?_⟩) (fun _ => hC0) ?_
          rotate_left
          · intro w hSw; clear hSw; go_simp; (try with_reducible rfl)
          (try simp only [List.getElem_toArray, List.getElem_cons_succ, List.getElem_cons_zero])
          (try simp only [Act.put, List.setIfInBounds_toArray, List.set_cons_zero, List.set_cons_succ])
          refine wpTill_pure (i := 6) (v := ?_) rfl (by kernel_rfl) (by kernel_rfl) (by kernel_rfl) (by kernel_rfl) (fun _ _ _ h => h) (Or.inl ⟨by rfl, ?_⟩) (fun _ => hC0) ?_
          rotate_left
          · intro w hSw; clear hSw; go_simp; (try with_reducible rfl)
          (try simp only [List.getElem_toArray, List.getElem_cons_succ, List.getElem_cons_zero])
          (try simp only [Act.put, List.setIfInBounds_toArray, List.set_cons_zero, List.set_cons_succ])
          refine wpTill_pure (i := 7) (v := ?_) rfl (by kernel_rfl) (by kernel_rfl) (by kernel_rfl) (by kernel_rfl) (fun _ _ _ h => h) (Or.inl ⟨by rfl, ?_⟩) (fun _ => hC0) ?_
          rotate_left
          · intro w hSw; clear hSw; go_simp; (try with_reducible rfl)
          (try simp only [List.getElem_toArray, List.getElem_cons_succ, List.getElem_cons_zero])
          (try simp only [Act.put, List.setIfInBounds_toArray, List.set_cons_zero, List.set_cons_succ])
          refine wpTill_take (i := 8) (v := ?_) rfl (by kernel_rfl) (by kernel_rfl) (by kernel_rfl) (by kernel_rfl) (by kernel_rfl) (by kernel_rfl) (fun _ _ _ h => h) (Or.inl ⟨by rfl, ?_⟩) hC0 ?_
          rotate_left
          · intro w hSw; (try dsimp only at hSw); obtain ⟨z0, z1, z2, z3⟩ := hSw; go_simp; (try with_reducible rfl)
          (try simp only [List.getElem_toArray, List.getElem_cons_succ, List.getElem_cons_zero])
          (try simp only [Act.put, List.setIfInBounds_toArray, List.set_cons_zero, List.set_cons_succ])
          refine wpTill_pure (i := 9) (v := ?_) rfl (by kernel_rfl) (by kernel_rfl) (by kernel_rfl) (by kernel_rfl) (fun _ _ _ h => h) (Or.inl ⟨by rfl, ?_⟩) (fun _ => hC0) ?_
          rotate_left
          · intro w hSw; clear hSw; go_simp; (try with_reducible rfl)
          (try simp only [List.getElem_toArray, List.getElem_cons_succ, List.getElem_cons_zero])
          (try simp only [Act.put, List.setIfInBounds_toArray, List.set_cons_zero, List.set_cons_succ])
          refine wpTill_pure (i := 10) (v := ?_) rfl (by kernel_rfl) (by kernel_rfl) (by kernel_rfl) (by kernel_rfl) (fun _ _ _ h => h) (Or.inl ⟨by rfl, ?_⟩) (fun _ => hC0) ?_
          rotate_left
          · intro w hSw; clear hSw; go_simp; (try with_reducible rfl)
          (try simp only [List.getElem_toArray, List.getElem_cons_succ, List.getElem_cons_zero])
          (try simp only [Act.put, List.setIfInBounds_toArray, List.set_cons_zero, List.set_cons_succ])
          refine wpTill_take (i := 11) (v := ?_) rfl (by kernel_rfl) (by kernel_rfl) (by kernel_rfl) (by kernel_rfl) (by kernel_rfl) (by kernel_rfl) (fun _ _ _ h => h) (Or.inl ⟨by rfl, ?_⟩) hC0 ?_
          rotate_left
          · intro w hSw; (try dsimp only at hSw); obtain ⟨z0, z1, z2, z3⟩ := hSw; go_simp; (try with_reducible rfl)
          (try simp only [List.getElem_toArray, List.getElem_cons_succ, List.getElem_cons_zero])
          (try simp only [Act.put, List.setIfInBounds_toArray, List.set_cons_zero, List.set_cons_succ])
          refine wpTill_one (k := 12) (by kernel_rfl) rfl (fun K hK => ?_)
          (try simp only [List.getElem_toArray, List.getElem_cons_succ, List.getElem_cons_zero])
          go_simp
          refine (whole_any 1 (by decide) (by decide) _).mono ?_
          rintro e xw_1 ⟨xv_1, rfl, hv_1, hb_1⟩
          have cc_1 := below_step bd0 hb_1
          have hC_1 : (fun w' : World => w'.cell? ⟨G, k, none⟩ = some (.slice (some ⟨g, 0, none⟩) i i) ∧ (w'.cell? ⟨g, k * 3, none⟩ = some (.bool ta.s) ∧ w'.cell? ⟨g, k * 3 + 1, none⟩ = some (.slice ta.a1 ta.n1 ta.c1) ∧ w'.cell? ⟨g, k * 3 + 2, none⟩ = some (.slice ta.a2 ta.n2 ta.c2))) xw_1 := unhide HCC _ cc_1
          refine hK.out _ _ (fun _ => hC_1) ?_
          clear hK K
          (try simp only [Act.put, List.setIfInBounds_toArray, List.set_cons_zero, List.set_cons_succ])
          refine wpTill_one (k := 13) (by kernel_rfl) rfl (fun K hK => ?_)
          (try simp only [List.getElem_toArray, List.getElem_cons_succ, List.getElem_cons_zero])
          go_simp
          refine (unhide HAD _ _ cc_1 hv_1).mono ?_
          rintro e xw_2 ⟨xv_2, rfl, hv_2, hb_2⟩
          have cc_2 := below_step cc_1 hb_2
          have hC_2 : (fun w' : World => w'.cell? ⟨G, k, none⟩ = some (.slice (some ⟨g, 0, none⟩) i i) ∧ (w'.cell? ⟨g, k * 3, none⟩ = some (.bool ta.s) ∧ w'.cell? ⟨g, k * 3 + 1, none⟩ = some (.slice ta.a1 ta.n1 ta.c1) ∧ w'.cell? ⟨g, k * 3 + 2, none⟩ = some (.slice ta.a2 ta.n2 ta.c2))) xw_2 := unhide HCC _ cc_2
          refine hK.out _ _ (fun _ => hC_2) ?_
          clear hK K
          (try simp only [Act.put, List.setIfInBounds_toArray, List.set_cons_zero, List.set_cons_succ])
          refine wpTill_pure (i := 14) (v := ?_) rfl (by kernel_rfl) (by kernel_rfl) (by kernel_rfl) (by kernel_rfl) (fun _ _ _ h => h) (Or.inl ⟨by rfl, ?_⟩) (fun _ => hC_2) ?_
          rotate_left
          · intro w hSw; clear hSw; go_simp; (try with_reducible rfl)
          (try simp only [List.getElem_toArray, List.getElem_cons_succ, List.getElem_cons_zero])
          (try simp only [Act.put, List.setIfInBounds_toArray, List.set_cons_zero, List.set_cons_succ])
          obtain ⟨tn, rfl, rn⟩ := tri_of hv_2
          simp only [Tri.val]
          have S8 := (unhide HM).keep cc_2
          have ⟨⟨y0, y1, y2⟩, f0, f1, f2⟩ := S8.cells (i := k) (j := k) (by omega) (by omega)
          have FZ := S8.set (i := k) (j := k) (by omega) (by omega) tn _ rn
          have FZ := FZ.congr (N := E) (fun a b ha hb => by rw [← unhide HE]; exact vis_all i (lf ks) (bf qs) hlt a b hb)
          rw [unhide HBK] at y0 y1 y2 f0 f1 f2 FZ
          obtain ⟨W9, hW9⟩ : ∃ W, ((xw_2.setCell ⟨g, k * 3, none⟩ (.bool tn.s)).setCell ⟨g, k * 3 + 1, none⟩ (.slice tn.a1 tn.n1 tn.c1)).setCell ⟨g, k * 3 + 2, none⟩ (.slice tn.a2 tn.n2 tn.c2) = W := ⟨_, rfl⟩
          rw [hW9] at FZ
          have HFM := hide FZ
          clear S8 FZ rn
          refine wpTill_one (k := 15) (by kernel_rfl) rfl (fun K hK => ?_)
          (try simp only [List.getElem_toArray, List.getElem_cons_succ, List.getElem_cons_zero])
          go_simp
          refine hK.out _ _ (fun h => absurd (h.symm.trans (by kernel_rfl)) Bool.false_ne_true) ?_
          clear hK K
          (try simp only [Act.put, List.setIfInBounds_toArray, List.set_cons_zero, List.set_cons_succ])
          refine wpTill_done (by kernel_rfl) ?_ _
          clear y0 y1 y2 f0 f1 f2 hW9 hC0 hC_1 cc_1 hC_2 cc_2 bd0 HCC HAD HM HRA
          go_wp2_with fail
          exact ⟨⟨k + 1, _, _, by go_num, by omega, unhide HFM⟩, by simp [intOf]; omega⟩
    · obtain rfl : k = n := by omega
      have e1 : ¬ (k : Int) < (k : Int) := by omega
      have HBM := hide hM.bl
      rw [← unhide HE] at hM
      have HSO := hide (unhide HSV wr G bs uss hM)
      clear hM HM
      go_wp2_with fail
      refine (unhide HSO).mono ?_
      rintro e w' (⟨v, x, rfl, hv, hx, hr, hb⟩ | ⟨hy, rfl, hb⟩)
      · have HV := hide hv
        obtain ⟨av, cv, rfl, _, _, _⟩ := hv
        have HX := hide hx
        have HRR := hide hr
        have HB := hide (below_step (unhide HBM) hb)
        clear hx hr hb HSO
        go_wp2
        go_ret2
        exact Or.inl ⟨_, x, rfl, unhide HV, unhide HX, unhide HRR, unhide HB⟩
      · have HY := hide hy
        have HB := hide (below_step (unhide HBM) hb)
        clear hy hb HSO
        go_wp2
        go_ret2
        exact Or.inr ⟨unhide HY, rfl, unhide HB⟩

/-- Each number divided by its speed. -/
def qu (qs ss : List Rat) (i : Nat) : Rat := qs[i]! / ss[i]!
set_option maxHeartbeats 8000000 in
set_option maxRecDepth 100000 in
set_option linter.unusedSimpArgs false in
theorem quotients_any (v vs : Value) (qs ss : List Rat) (n J : Nat) (w : World) (h : LawIs w v qs) (hs : LawIs w vs ss) (hn : qs.length = n) (hns : ss.length = n) (hn2 : n ≤ 1000) (hp : AllPos ss) (hJ : ∀ i, i < n → RS qs[i]! J ∧ RS ss[i]! J) (hJ2 : J + J + 1 ≤ KK) :
    Calls Tryz.prog 25 #[v, vs] w fun e w' => ∃ v, e = .returned v ∧ LawIs w' v (row (qu qs ss) n) ∧ Below w.heap.size w w' := by
  obtain ⟨a, c, rfl, h1, h2, h3⟩ := h
  obtain ⟨a2, c2, rfl, s1, s2, s3⟩ := hs
  rw [hn] at h1 h3 ⊢
  have hp' : ∀ i, i < n → 0 < ss[i]! := fun i hi => hp i (by omega)
  rw [hns] at s1 s3 ⊢
  have H3 := hide h3
  have HS3 := hide s3
  have HP := hide hp'
  have HJ := hide hJ
  have qmk := make_ratios (n : Int) (by omega) (by omega) w
  rw [Int.toNat_natCast] at qmk
  have S0 := SumsAt.start w w n (Below.refl _ _)
  rw [fill_zero (qu qs ss) n] at S0
  obtain ⟨W0, hW0⟩ : ∃ W, w.alloc (.cells (tcells (List.replicate n zTri)).toArray 39) = W := ⟨_, rfl⟩
  obtain ⟨G, hG⟩ : ∃ G, w.heap.size = G := ⟨_, rfl⟩
  rw [hW0, hG] at qmk S0
  have HS0 := hide S0
  clear S0 hW0 hG h3 s3 hn hns hp hp' hJ
  go_enter Tryz.func25, Tryz.ntmps25
  go_wp2_with fail
  clear qmk
  go_loopw [12] (fun vi wr => ∃ (i : Nat) (us : List Tri), vi = .int .i64 (i : Int) ∧ i ≤ n ∧ SumsAt w wr G us (fill (qu qs ss) n i)) (fun vi _ => n - (intOf vi).toNat)
  case atStart => exact ⟨0, _, rfl, Nat.zero_le _, unhide HS0⟩
  case round =>
    obtain ⟨i, us, rfl, hi, S⟩ := hrel
    have hul : us.length = n := by rw [S.len, fill_length]
    clear HS0
    have HS := hide S
    by_cases hlt : i < n
    · obtain ⟨b, o, rfl, hblt, hcs⟩ := unhide H3 (by omega)
      obtain ⟨xs, xp1, xp2, xn1, xd1, xn2, xd2, xk0, xk1, xk2, xr⟩ := hcs i hlt
      obtain ⟨tx, rfl, rfl, rfl, rfl, rfl, rfl, rfl⟩ : ∃ t : Tri, xs = t.s ∧ xp1 = t.a1 ∧ xp2 = t.a2 ∧ xn1 = t.n1 ∧ xd1 = t.c1 ∧ xn2 = t.n2 ∧ xd2 = t.c2 := ⟨⟨xs, xp1, xp2, xn1, xd1, xn2, xd2⟩, rfl, rfl, rfl, rfl, rfl, rfl, rfl⟩
      obtain ⟨b2, o2, rfl, hblt2, hcs2⟩ := unhide HS3 (by omega)
      obtain ⟨ys, yp1, yp2, yn1, yd1, yn2, yd2, yk0, yk1, yk2, yr⟩ := hcs2 i hlt
      obtain ⟨ty, rfl, rfl, rfl, rfl, rfl, rfl, rfl⟩ : ∃ t : Tri, ys = t.s ∧ yp1 = t.a1 ∧ yp2 = t.a2 ∧ yn1 = t.n1 ∧ yd1 = t.c1 ∧ yn2 = t.n2 ∧ yd2 = t.c2 := ⟨⟨ys, yp1, yp2, yn1, yd1, yn2, yd2⟩, rfl, rfl, rfl, rfl, rfl, rfl, rfl⟩
      have HR1 := hide (xr.below S.bl)
      have HR2 := hide (yr.below S.bl)
      have HBL := hide S.bl
      have HCC : Hid (∀ W, Below wr.heap.size wr W → (fun w' : World => (w'.cell? ⟨b, o + i * 3, none⟩ = some (.bool tx.s) ∧ w'.cell? ⟨b, o + i * 3 + 1, none⟩ = some (.slice tx.a1 tx.n1 tx.c1) ∧ w'.cell? ⟨b, o + i * 3 + 2, none⟩ = some (.slice tx.a2 tx.n2 tx.c2)) ∧ (w'.cell? ⟨b2, o2 + i * 3, none⟩ = some (.bool ty.s) ∧ w'.cell? ⟨b2, o2 + i * 3 + 1, none⟩ = some (.slice ty.a1 ty.n1 ty.c1) ∧ w'.cell? ⟨b2, o2 + i * 3 + 2, none⟩ = some (.slice ty.a2 ty.n2 ty.c2))) W) := fun W hW => by
        have bc := below_step (unhide HBL) hW
        refine ⟨?_, ?_⟩
        · rw [bc.cell (p := ⟨b, o + i * 3, none⟩) hblt, bc.cell (p := ⟨b, o + i * 3 + 1, none⟩) hblt, bc.cell (p := ⟨b, o + i * 3 + 2, none⟩) hblt]; exact ⟨xk0, xk1, xk2⟩
        · rw [bc.cell (p := ⟨b2, o2 + i * 3, none⟩) hblt2, bc.cell (p := ⟨b2, o2 + i * 3 + 1, none⟩) hblt2, bc.cell (p := ⟨b2, o2 + i * 3 + 2, none⟩) hblt2]; exact ⟨yk0, yk1, yk2⟩
      have hp := unhide HP i hlt
      have ⟨j1, j2⟩ := unhide HJ i hlt
      have HDV : Hid (∀ W, Below wr.heap.size wr W → Calls Tryz.prog 44 #[.agg #[.bool tx.s, .slice tx.a1 tx.n1 tx.c1, .slice tx.a2 tx.n2 tx.c2], .agg #[.bool ty.s, .slice ty.a1 ty.n1 ty.c1, .slice ty.a2 ty.n2 ty.c2]] W fun e w' => ∃ v, e = .returned (.tuple #[v, .nilIface]) ∧ RatIs w' v (qu qs ss i) ∧ Below W.heap.size W w') := fun W hW => divR_any tx.val ty.val _ _ W ((unhide HR1).below hW) ((unhide HR2).below hW) J j1 j2 hJ2 (fun x => by rw [Rat.num_eq_zero.1 x] at hp; exact absurd hp (by decide))
      have e1 : (i : Int) < (n : Int) := by omega
      have e0 : (0 : Int) ≤ (i : Int) := by omega
      clear S xr yr hcs hcs2 xk0 xk1 xk2 yk0 yk1 yk2
      go_wp2_with fail
      refine wp_region_till (fun w' : World => (w'.cell? ⟨b, o + i * 3, none⟩ = some (.bool tx.s) ∧ w'.cell? ⟨b, o + i * 3 + 1, none⟩ = some (.slice tx.a1 tx.n1 tx.c1) ∧ w'.cell? ⟨b, o + i * 3 + 2, none⟩ = some (.slice tx.a2 tx.n2 tx.c2)) ∧ (w'.cell? ⟨b2, o2 + i * 3, none⟩ = some (.bool ty.s) ∧ w'.cell? ⟨b2, o2 + i * 3 + 1, none⟩ = some (.slice ty.a1 ty.n1 ty.c1) ∧ w'.cell? ⟨b2, o2 + i * 3 + 2, none⟩ = some (.slice ty.a2 ty.n2 ty.c2))) 15 (by kernel_rfl) ?_
      have bd0 : Below wr.heap.size wr wr.drew := (Below.refl _ _).drew
      have hC0 : (fun w' : World => (w'.cell? ⟨b, o + i * 3, none⟩ = some (.bool tx.s) ∧ w'.cell? ⟨b, o + i * 3 + 1, none⟩ = some (.slice tx.a1 tx.n1 tx.c1) ∧ w'.cell? ⟨b, o + i * 3 + 2, none⟩ = some (.slice tx.a2 tx.n2 tx.c2)) ∧ (w'.cell? ⟨b2, o2 + i * 3, none⟩ = some (.bool ty.s) ∧ w'.cell? ⟨b2, o2 + i * 3 + 1, none⟩ = some (.slice ty.a1 ty.n1 ty.c1) ∧ w'.cell? ⟨b2, o2 + i * 3 + 2, none⟩ = some (.slice ty.a2 ty.n2 ty.c2))) wr.drew := unhide HCC _ bd0
      refine wpTill_pure (i := 0) (v := ?_) rfl (by kernel_rfl) (by kernel_rfl) (by kernel_rfl) (by kernel_rfl) (fun _ _ _ h => h) (Or.inl ⟨by rfl, ?_⟩) (fun _ => hC0) ?_
      rotate_left
      · intro w hSw; clear hSw; go_simp; (try with_reducible rfl)
      (try simp only [List.getElem_toArray, List.getElem_cons_succ, List.getElem_cons_zero])
      (try simp only [Act.put, List.setIfInBounds_toArray, List.set_cons_zero, List.set_cons_succ])
      refine wpTill_pure (i := 1) (v := ?_) rfl (by kernel_rfl) (by kernel_rfl) (by kernel_rfl) (by kernel_rfl) (fun _ _ _ h => h) (Or.inl ⟨by rfl, ?_⟩) (fun _ => hC0) ?_
      rotate_left
      · intro w hSw; clear hSw; go_simp; (try with_reducible rfl)
      (try simp only [List.getElem_toArray, List.getElem_cons_succ, List.getElem_cons_zero])
      (try simp only [Act.put, List.setIfInBounds_toArray, List.set_cons_zero, List.set_cons_succ])
      refine wpTill_pure (i := 2) (v := ?_) rfl (by kernel_rfl) (by kernel_rfl) (by kernel_rfl) (by kernel_rfl) (fun _ _ _ h => h) (Or.inl ⟨by rfl, ?_⟩) (fun _ => hC0) ?_
      rotate_left
      · intro w hSw; clear hSw; go_simp; (try with_reducible rfl)
      (try simp only [List.getElem_toArray, List.getElem_cons_succ, List.getElem_cons_zero])
      (try simp only [Act.put, List.setIfInBounds_toArray, List.set_cons_zero, List.set_cons_succ])
      refine wpTill_pure (i := 3) (v := ?_) rfl (by kernel_rfl) (by kernel_rfl) (by kernel_rfl) (by kernel_rfl) (fun _ _ _ h => h) (Or.inl ⟨by rfl, ?_⟩) (fun _ => hC0) ?_
      rotate_left
      · intro w hSw; clear hSw; go_simp; (try with_reducible rfl)
      (try simp only [List.getElem_toArray, List.getElem_cons_succ, List.getElem_cons_zero])
      (try simp only [Act.put, List.setIfInBounds_toArray, List.set_cons_zero, List.set_cons_succ])
      refine wpTill_pure (i := 4) (v := ?_) rfl (by kernel_rfl) (by kernel_rfl) (by kernel_rfl) (by kernel_rfl) (fun _ _ _ h => h) (Or.inl ⟨by rfl, ?_⟩) (fun _ => hC0) ?_
      rotate_left
      · intro w hSw; clear hSw; go_simp; (try with_reducible rfl)
      (try simp only [List.getElem_toArray, List.getElem_cons_succ, List.getElem_cons_zero])
      (try simp only [Act.put, List.setIfInBounds_toArray, List.set_cons_zero, List.set_cons_succ])
      refine wpTill_take (i := 5) (v := ?_) rfl (by kernel_rfl) (by kernel_rfl) (by kernel_rfl) (by kernel_rfl) (by kernel_rfl) (by kernel_rfl) (fun _ _ _ h => h) (Or.inl ⟨by rfl, ?_⟩) hC0 ?_
      rotate_left
      · intro w hSw; (try dsimp only at hSw); obtain ⟨⟨z0, z1, z2⟩, z3, z4, z5⟩ := hSw; go_simp; (try with_reducible rfl)
      (try simp only [List.getElem_toArray, List.getElem_cons_succ, List.getElem_cons_zero])
      (try simp only [Act.put, List.setIfInBounds_toArray, List.set_cons_zero, List.set_cons_succ])
      refine wpTill_pure (i := 6) (v := ?_) rfl (by kernel_rfl) (by kernel_rfl) (by kernel_rfl) (by kernel_rfl) (fun _ _ _ h => h) (Or.inl ⟨by rfl, ?_⟩) (fun _ => hC0) ?_
      rotate_left
      · intro w hSw; clear hSw; go_simp; (try with_reducible rfl)
      (try simp only [List.getElem_toArray, List.getElem_cons_succ, List.getElem_cons_zero])
      (try simp only [Act.put, List.setIfInBounds_toArray, List.set_cons_zero, List.set_cons_succ])
      refine wpTill_pure (i := 7) (v := ?_) rfl (by kernel_rfl) (by kernel_rfl) (by kernel_rfl) (by kernel_rfl) (fun _ _ _ h => h) (Or.inl ⟨by rfl, ?_⟩) (fun _ => hC0) ?_
      rotate_left
      · intro w hSw; clear hSw; go_simp; (try with_reducible rfl)
      (try simp only [List.getElem_toArray, List.getElem_cons_succ, List.getElem_cons_zero])
      (try simp only [Act.put, List.setIfInBounds_toArray, List.set_cons_zero, List.set_cons_succ])
      refine wpTill_pure (i := 8) (v := ?_) rfl (by kernel_rfl) (by kernel_rfl) (by kernel_rfl) (by kernel_rfl) (fun _ _ _ h => h) (Or.inl ⟨by rfl, ?_⟩) (fun _ => hC0) ?_
      rotate_left
      · intro w hSw; clear hSw; go_simp; (try with_reducible rfl)
      (try simp only [List.getElem_toArray, List.getElem_cons_succ, List.getElem_cons_zero])
      (try simp only [Act.put, List.setIfInBounds_toArray, List.set_cons_zero, List.set_cons_succ])
      refine wpTill_take (i := 9) (v := ?_) rfl (by kernel_rfl) (by kernel_rfl) (by kernel_rfl) (by kernel_rfl) (by kernel_rfl) (by kernel_rfl) (fun _ _ _ h => h) (Or.inl ⟨by rfl, ?_⟩) hC0 ?_
      rotate_left
      · intro w hSw; (try dsimp only at hSw); obtain ⟨⟨z0, z1, z2⟩, z3, z4, z5⟩ := hSw; go_simp; (try with_reducible rfl)
      (try simp only [List.getElem_toArray, List.getElem_cons_succ, List.getElem_cons_zero])
      (try simp only [Act.put, List.setIfInBounds_toArray, List.set_cons_zero, List.set_cons_succ])
      refine wpTill_one (k := 10) (by kernel_rfl) rfl (fun K hK => ?_)
      (try simp only [List.getElem_toArray, List.getElem_cons_succ, List.getElem_cons_zero])
      go_simp
      refine (unhide HDV _ bd0).mono ?_
      rintro e xw_1 ⟨xv_1, rfl, hv_1, hb_1⟩
      have cc_1 := below_step bd0 hb_1
      have hC_1 : (fun w' : World => (w'.cell? ⟨b, o + i * 3, none⟩ = some (.bool tx.s) ∧ w'.cell? ⟨b, o + i * 3 + 1, none⟩ = some (.slice tx.a1 tx.n1 tx.c1) ∧ w'.cell? ⟨b, o + i * 3 + 2, none⟩ = some (.slice tx.a2 tx.n2 tx.c2)) ∧ (w'.cell? ⟨b2, o2 + i * 3, none⟩ = some (.bool ty.s) ∧ w'.cell? ⟨b2, o2 + i * 3 + 1, none⟩ = some (.slice ty.a1 ty.n1 ty.c1) ∧ w'.cell? ⟨b2, o2 + i * 3 + 2, none⟩ = some (.slice ty.a2 ty.n2 ty.c2))) xw_1 := unhide HCC _ cc_1
      refine hK.out _ _ (fun _ => hC_1) ?_
      clear hK K
      (try simp only [Act.put, List.setIfInBounds_toArray, List.set_cons_zero, List.set_cons_succ])
      obtain ⟨tn, rfl, rn⟩ := tri_of hv_1
      simp only [Tri.val]
      refine wpTill_pure (i := 11) (v := ?_) rfl (by kernel_rfl) (by kernel_rfl) (by kernel_rfl) (by kernel_rfl) (fun _ _ _ h => h) (Or.inl ⟨by rfl, ?_⟩) (fun _ => hC_1) ?_
      rotate_left
      · intro w hSw; clear hSw; go_simp; (try with_reducible rfl)
      (try simp only [List.getElem_toArray, List.getElem_cons_succ, List.getElem_cons_zero])
      (try simp only [Act.put, List.setIfInBounds_toArray, List.set_cons_zero, List.set_cons_succ])
      refine wpTill_pure (i := 12) (v := ?_) rfl (by kernel_rfl) (by kernel_rfl) (by kernel_rfl) (by kernel_rfl) (fun _ _ _ h => h) (Or.inl ⟨by rfl, ?_⟩) (fun _ => hC_1) ?_
      rotate_left
      · intro w hSw; clear hSw; go_simp; (try with_reducible rfl)
      (try simp only [List.getElem_toArray, List.getElem_cons_succ, List.getElem_cons_zero])
      (try simp only [Act.put, List.setIfInBounds_toArray, List.set_cons_zero, List.set_cons_succ])
      refine wpTill_pure (i := 13) (v := ?_) rfl (by kernel_rfl) (by kernel_rfl) (by kernel_rfl) (by kernel_rfl) (fun _ _ _ h => h) (Or.inl ⟨by rfl, ?_⟩) (fun _ => hC_1) ?_
      rotate_left
      · intro w hSw; clear hSw; go_simp; (try with_reducible rfl)
      (try simp only [List.getElem_toArray, List.getElem_cons_succ, List.getElem_cons_zero])
      (try simp only [Act.put, List.setIfInBounds_toArray, List.set_cons_zero, List.set_cons_succ])
      refine wpTill_pure (i := 14) (v := ?_) rfl (by kernel_rfl) (by kernel_rfl) (by kernel_rfl) (by kernel_rfl) (fun _ _ _ h => h) (Or.inl ⟨by rfl, ?_⟩) (fun _ => hC_1) ?_
      rotate_left
      · intro w hSw; clear hSw; go_simp; (try with_reducible rfl)
      (try simp only [List.getElem_toArray, List.getElem_cons_succ, List.getElem_cons_zero])
      (try simp only [Act.put, List.setIfInBounds_toArray, List.set_cons_zero, List.set_cons_succ])
      have S8 := (unhide HS).keep cc_1
      have ⟨⟨y0, y1, y2⟩, l0, l1, l2⟩ := S8.cells i (by omega)
      have FZ := S8.set i (by omega) tn _ rn
      rw [fill_set (qu qs ss)] at FZ
      obtain ⟨W9, hW9⟩ : ∃ W, ((xw_1.setCell ⟨G, i * 3, none⟩ (.bool tn.s)).setCell ⟨G, i * 3 + 1, none⟩ (.slice tn.a1 tn.n1 tn.c1)).setCell ⟨G, i * 3 + 2, none⟩ (.slice tn.a2 tn.n2 tn.c2) = W := ⟨_, rfl⟩
      rw [hW9] at FZ
      have HFS := hide FZ
      clear S8 FZ rn hv_1 hb_1
      refine wpTill_one (k := 15) (by kernel_rfl) rfl (fun K hK => ?_)
      (try simp only [List.getElem_toArray, List.getElem_cons_succ, List.getElem_cons_zero])
      go_simp
      refine hK.out _ _ (fun h => absurd (h.symm.trans (by kernel_rfl)) Bool.false_ne_true) ?_
      clear hK K
      (try simp only [Act.put, List.setIfInBounds_toArray, List.set_cons_zero, List.set_cons_succ])
      refine wpTill_done (by kernel_rfl) ?_ _
      clear l0 l1 l2 y0 y1 y2 hW9 hC0 hC_1 cc_1 bd0 HCC HDV HS HBL HR1 HR2
      go_wp2_with fail
      exact ⟨⟨i + 1, _, by go_num, hlt, unhide HFS⟩, by simp [intOf]; omega⟩
    · obtain rfl : i = n := by omega
      have e1 : ¬ (i : Int) < (i : Int) := by omega
      have LW := S.law (by omega)
      rw [hul] at LW
      have HLW : Hid (LawIs wr (.slice (some ⟨G, 0, none⟩) i i) (row (qu qs ss) i)) := LW
      have HBB := hide S.bl
      clear S LW HS
      go_wp2
      go_ret
      exact ⟨_, rfl, unhide HLW, unhide HBB⟩
end Go.Proofs.YtdaejkngmckmdaaGreatDoor
