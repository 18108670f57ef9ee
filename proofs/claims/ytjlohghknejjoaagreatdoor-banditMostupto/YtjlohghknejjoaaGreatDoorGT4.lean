/- Arms: what states are worth for ever. -/
import Derived.Test.YtjlohghknejjoaaGreatDoorGT3
namespace Go.Proofs.YtjlohghknejjoaaGreatDoor
open Go.RowKit Go.Sort Go.Shelf

/-- The equations, of which s rows are written, and k places of the next one. -/
def fpm (p : Nat → Nat → Rat) (b : Rat) (s k : Nat) (i j : Nat) : Rat := if i < s then dl i j - b * p i j else if i = s ∧ j < k then 0 - b * p i j else 0
theorem fpm_next (p : Nat → Nat → Rat) (b : Rat) (s k i j : Nat) : upm (fpm p b s k) s k (0 - b * p s k) i j = fpm p b s (k + 1) i j := by
  unfold upm fpm
  by_cases h : i = s ∧ j = k
  · obtain ⟨rfl, rfl⟩ := h
    rw [if_pos ⟨rfl, rfl⟩, if_neg (by omega), if_pos ⟨rfl, by omega⟩]
  · rw [if_neg h]
    by_cases h2 : i < s
    · rw [if_pos h2, if_pos h2]
    · rw [if_neg h2, if_neg h2]
      by_cases h3 : i = s ∧ j < k
      · rw [if_pos h3, if_pos ⟨h3.1, by omega⟩]
      · rw [if_neg h3, if_neg (fun x => h3 ⟨x.1, by by_cases e : j = k; exact absurd ⟨x.1, e⟩ h; omega⟩)]
theorem fpm_at (p : Nat → Nat → Rat) (b : Rat) {s n j : Nat} (hj : j < n) : fpm p b s n s j = 0 - b * p s j := by
  unfold fpm
  rw [if_neg (by omega), if_pos ⟨rfl, hj⟩]
theorem fpm_row (p : Nat → Nat → Rat) (b : Rat) {s n : Nat} (i j : Nat) (hj : j < n) : upm (fpm p b s n) s s (0 - b * p s s + 1) i j = fpm p b (s + 1) 0 i j := by
  unfold upm fpm
  by_cases h : i = s ∧ j = s
  · obtain ⟨rfl, rfl⟩ := h
    rw [if_pos ⟨rfl, rfl⟩, if_pos (by omega)]
    unfold dl
    rw [if_pos rfl]
    grind
  · rw [if_neg h]
    by_cases h2 : i < s
    · rw [if_pos h2, if_pos (by omega)]
    · rw [if_neg h2]
      by_cases h3 : i = s
      · rw [if_pos ⟨h3, hj⟩, if_pos (by omega)]
        unfold dl
        rw [if_neg (fun e => h ⟨h3, by omega⟩)]
      · rw [if_neg (fun x => h3 x.1), if_neg (by omega), if_neg (by omega)]
theorem fpm_none (p : Nat → Nat → Rat) (b : Rat) (i j : Nat) : fpm p b 0 0 i j = 0 := by
  unfold fpm
  rw [if_neg (by omega), if_neg (by omega)]
/-- What is worth b times its mean later is worth nothing. -/
theorem ever_zero {n : Nat} {p : Nat → Nat → Rat} {b : Rat} (h0 : 0 ≤ b) (h1 : b < 1) (hp : ∀ i j, i < n → j < n → 0 ≤ p i j) (hs : ∀ i, i < n → Bth.ps (p i) n ≤ 1) {y : Nat → Rat} (hy : ∀ i, i < n → y i = b * Bth.ps (fun j => p i j * y j) n) : ∀ i, i < n → y i = 0 :=
  Git.zero_n h1 (fun c hc K hK hb i hi => by
    have e : c * y i = b * Bth.ps (fun j => p i j * (c * y j)) n := by
      rw [hy i hi]
      have e1 : Bth.ps (fun j => p i j * (c * y j)) n = c * Bth.ps (fun j => p i j * y j) n := by
        rw [← Lin.ps_mul]
        exact Bth.ps_congr _ (fun j _ => by grind)
      rw [e1]; grind
    rw [e]
    refine Rat.mul_le_mul_of_nonneg_left ?_ h0
    have h2 : Bth.ps (fun j => p i j * (c * y j)) n ≤ Bth.ps (fun j => K * p i j) n := Mdp.ps_le _ (fun j hj => by
      have := Rat.mul_le_mul_of_nonneg_left (hb j hj) (hp i j hi hj)
      grind)
    rw [Lin.ps_mul] at h2
    have h3 := Rat.mul_le_mul_of_nonneg_left (hs i hi) hK
    grind)
def ForPost (w : World) (n : Nat) (g : Nat → Rat) (p : Nat → Nat → Rat) (b : Rat) (e : Ending) (w' : World) : Prop :=
  ∃ (v : Value) (x : Nat → Rat), e = .returned v ∧ LawIs w' v (row x n) ∧ (∀ i, i < n → x i = g i + b * Bth.ps (fun j => p i j * x j) n) ∧ (∀ i, RS (x i) (XBn n)) ∧ Below w.heap.size w w'

set_option maxHeartbeats 16000000 in
set_option maxRecDepth 100000 in
set_option linter.unusedSimpArgs false in
theorem forever_any (vb vn vw : Value) (gs : List Rat) (P : List (List Rat)) (b : Rat) (n : Nat) (w : World) (hg : LawIs w vb gs) (hP : RowsAre w vn P) (hw : RatIs w vw b) (ng : gs.length = n) (np : P.length = n) (nl : ∀ i, i < n → (P[i]!).length = n)
    (rb : RS b 1) (rg : ∀ i, i < n → RS gs[i]! 1) (rp : ∀ i j, i < n → j < n → RS (P[i]!)[j]! 1) (h0 : 0 ≤ b) (h1 : b < 1) (hp : ∀ i j, i < n → j < n → 0 ≤ (P[i]!)[j]!) (hs : ∀ i, i < n → Bth.ps (fun j => (P[i]!)[j]!) n ≤ 1) (hn1 : 1 ≤ n) (hn : n ≤ 30) (hX : 2 * xb (sz 5 n) n + 40 * sz 5 n + 50 ≤ KK) :
    Calls Tryz.prog 59 #[vb, vn, vw] w (ForPost w n (fun i => gs[i]!) (fun i j => (P[i]!)[j]!) b) := by
  have KKe : KK = 1099511627776 := rfl
  obtain ⟨p, hpe⟩ : ∃ p : Nat → Nat → Rat, p = fun i j => (P[i]!)[j]! := ⟨_, rfl⟩
  obtain ⟨t, rfl, hwt⟩ := tri_of hw
  have hX0 := BoxIs.new (w := w) hwt
  have b0 := alloc_below w (.cells #[.bool t.s, .slice t.a1 t.n1 t.c1, .slice t.a2 t.n2 t.c2] 37)
  obtain ⟨W0, hW0⟩ : ∃ W, w.alloc (.cells #[.bool t.s, .slice t.a1 t.n1 t.c1, .slice t.a2 t.n2 t.c2] 37) = W := ⟨_, rfl⟩
  obtain ⟨bw, hbw⟩ : ∃ x, w.heap.size = x := ⟨_, rfl⟩
  rw [hW0] at hX0 b0
  rw [hbw] at hX0
  have HX0 := hide hX0
  have HB0 := hide b0
  have HG := hide (hg.below b0)
  have HP := hide (hP.below b0)
  have HSV : Hid (∀ W G B us, OneMat W0 W G B n us (fpm p b n 0) → Calls Tryz.prog 80 #[.slice (some ⟨G, 0, none⟩) n n, vb] W (SolvePost W n (fun i j => if j < n then dl i j - b * p i j else gs[i]!) (XBn n))) := fun W G B us hM => by
    have hae : ∀ i j, i < n → j < n + 1 → aug (mrows n n (fpm p b n 0)) gs n i j = (if j < n then dl i j - b * p i j else gs[i]!) := fun i j hi hj => by
      unfold aug
      by_cases e : j < n
      · rw [if_pos e, if_pos e, mrows_get hi, row_get e]
        unfold fpm
        rw [if_pos hi]
      · rw [if_neg e, if_neg e]
    refine (solve_any _ _ (mrows n n (fpm p b n 0)) gs W n 5 (hM.rows (by omega)) ((unhide HG).below hM.sum.bl) (mrows_length _ _ _) (fun j hj => by rw [mrows_get hj, row_length]) ng (by omega) (fun i j hi hj => by
      rw [hae i j hi hj]
      by_cases e : j < n
      · rw [if_pos e]
        have r1 := rp i j hi e
        have r2 : RS (p i j) 1 := by rw [hpe]; exact r1
        exact RS.mono (RS.sub' (dl_RS i j) (rb.mul r2)) (by omega)
      · rw [if_neg e]
        exact (rg i hi).mono (by omega)) hX).mono ?_
    rintro e w' (⟨v, x, rfl, hv, hx, hr, hb⟩ | ⟨⟨y, hy, i, hi, hy1⟩, rfl, hb⟩)
    · exact Or.inl ⟨v, x, rfl, hv, solved_congr hae hx, hr, hb⟩
    · exact Or.inr ⟨⟨y, (sat_congr hae y 0).1 hy, i, hi, hy1⟩, rfl, hb⟩
  have HEQ : Hid (∀ (x : Nat → Rat) (t : Rat), Lin.Sat n (fun i j => if j < n then dl i j - b * p i j else gs[i]!) x t → ∀ i, i < n → x i = gs[i]! * t + b * Bth.ps (fun j => p i j * x j) n) := fun x t hx i hi => by
    have e := hx i hi
    have e1 : Bth.ps (fun j => (if j < n then dl i j - b * p i j else gs[i]!) * x j) n = Bth.ps (fun j => (if i = j then (1 : Rat) else 0) * x j - b * (p i j * x j)) n := Bth.ps_congr _ (fun j hj => by
      rw [if_pos hj]
      unfold dl
      grind)
    have e2 : (fun i j => if j < n then dl i j - b * p i j else gs[i]!) i n = gs[i]! := if_neg (Nat.lt_irrefl n)
    rw [e2] at e
    have e3 := e1.symm.trans e
    rw [Lin.ps_sub, Mdp.ps_delta hi, Lin.ps_mul] at e3
    grind
  have HEZ : Hid (∀ y : Nat → Rat, (∀ i, i < n → y i = b * Bth.ps (fun j => p i j * y j) n) → ∀ i, i < n → y i = 0) := fun y hy => ever_zero h0 h1 (fun i j hi hj => by rw [hpe]; exact hp i j hi hj) (fun i hi => by rw [hpe]; exact hs i hi) hy
  have HRW := hide (rb.mono (show 1 ≤ 5 by omega))
  have HRPP : Hid (∀ i j, i < n → j < n → RS (p i j) 1) := fun i j hi hj => by rw [hpe]; exact rp i j hi hj
  have HRB := hide rb
  have HNL := hide nl
  have HNP := hide np
  have HPE := hide hpe
  have HRZ : Hid (RS (0 : Rat) 5) := RS.mono RS.zero (show 1 ≤ 5 by omega)
  have HR1 : Hid (RS ((1 : Int) : Rat) 5) := RS.mono one_RS' (by omega)
  rw [show (ForPost w n (fun i => gs[i]!) (fun i j => (P[i]!)[j]!) b) = ForPost w n (fun i => gs[i]!) p b by rw [hpe]]
  obtain ⟨ag, cg, rfl, g1, g2, g3⟩ := hg
  obtain ⟨ap, cp, rfl, p1, p2, p3⟩ := hP
  rw [ng] at g1 HG HSV ⊢
  rw [np] at p1 HP p3 ⊢
  obtain ⟨bp, op, rfl, hbp, hcp0⟩ := p3 (by omega)
  clear hcp0 hbp np ng
  simp only [Tri.val]
  have HSQ := hide (bsquare_any n W0 (by omega))
  clear hw hwt hX0 b0 g3 p3 rb rg rp h0 h1 hp hs nl hpe
  go_enter Tryz.func59, Tryz.ntmps59
  go_wp2_with fail
  clear hW0 hbw
  refine (unhide HSQ).mono ?_
  rintro e w1 ⟨G, B, us0, rfl, hM0⟩
  have HM0 := hide (hM0.congr (N := fpm p b 0 0) (fun i j _ _ => (fpm_none p b i j).symm))
  clear hM0 HSQ
  go_wp2_with fail
  go_loopw [19] (fun vi wr => ∃ (s : Nat) (us : List Tri), vi = .int .i64 (s : Int) ∧ s ≤ n ∧ OneMat W0 wr G B n us (fpm p b s 0)) (fun vi _ => n - (intOf vi).toNat)
  case atStart => exact ⟨0, _, rfl, Nat.zero_le _, unhide HM0⟩
  case round =>
    obtain ⟨s, us, rfl, hs, hM⟩ := hrel
    clear HM0
    by_cases hlt : s < n
    · have e1 : (s : Int) < (n : Int) := by omega
      have e0 : (0 : Int) ≤ (s : Int) := by omega
      have hltP : s < P.length := by have := unhide HNP; omega
      have hbM := hM.sum.bl
      obtain ⟨a', c', hve, _, _, q3⟩ := unhide HP
      obtain ⟨bp', op', ea', hbp', hcp⟩ := q3 (by rw [unhide HNP]; omega)
      injection hve with hv1 hv2 hv3
      clear hv2 hv3
      rw [← hv1] at ea'
      injection ea' with ea'
      injection ea' with ea1 ea2 ea3
      clear ea3
      subst ea1
      subst ea2
      clear hv1
      obtain ⟨m, k0, hL⟩ := hcp s hltP
      rw [← hbM.cell (p := ⟨bp, op + s, none⟩) hbp'] at k0
      have hmn := law_len hL
      rw [unhide HNL s hlt] at hmn
      obtain ⟨bl, ol, hma, hbl, hcl⟩ : ∃ bl ol, m.a = some ⟨bl, ol, none⟩ ∧ bl < W0.heap.size ∧ ∀ j, j < (P[s]!).length → ∃ s1 a1 a2 n1 c1 n2 c2, W0.cell? ⟨bl, ol + j * 3, none⟩ = some (.bool s1) ∧ W0.cell? ⟨bl, ol + j * 3 + 1, none⟩ = some (.slice a1 n1 c1) ∧ W0.cell? ⟨bl, ol + j * 3 + 2, none⟩ = some (.slice a2 n2 c2) ∧ RatIs W0 (.agg #[.bool s1, .slice a1 n1 c1, .slice a2 n2 c2]) (P[s]!)[j]! := by
        obtain ⟨al, cl', hle, l1, l2, l3⟩ := hL
        obtain ⟨bl, ol, ea, hbl, hcl⟩ := l3 (by rw [unhide HNL s hlt]; omega)
        have ela : m.a = al := by injection hle
        exact ⟨bl, ol, by rw [ela, ea], hbl, hcl⟩
      rw [unhide HNL s hlt] at hcl
      rw [hma, hmn] at k0
      have HCL := hide hcl
      have HM1 := hide hM
      have HBL := hide hbl
      obtain ⟨ro, hro⟩ : ∃ x, s * n * 3 = x := ⟨_, rfl⟩
      have HRO := hide hro
      clear hM hbM hcp hL hcl hmn q3 hro hma hbl hbp' hltP
      go_wp2_with fail
      clear k0
      go_loopw [26] (fun vj wv => ∃ (k : Nat) (us' : List Tri), vj = .int .i64 (k : Int) ∧ k ≤ n ∧ OneMat W0 wv G B n us' (fpm p b s k)) (fun vj _ => n - (intOf vj).toNat)
      case atStart => exact ⟨0, _, rfl, Nat.zero_le _, unhide HM1⟩
      case round =>
        obtain ⟨k, us', rfl, hk, hM⟩ := hrel
        clear HM1
        by_cases hltk : k < n
        · have g1' : (k : Int) < (n : Int) := by omega
          have g0' : (0 : Int) ≤ (k : Int) := by omega
          have hbM := hM.sum.bl
          obtain ⟨xs_, xp1, xp2, xn1, xd1, xn2, xd2, xk0, xk1, xk2, xr⟩ := unhide HCL k hltk
          obtain ⟨tx, rfl, rfl, rfl, rfl, rfl, rfl, rfl⟩ : ∃ t : Tri, xs_ = t.s ∧ xp1 = t.a1 ∧ xp2 = t.a2 ∧ xn1 = t.n1 ∧ xd1 = t.c1 ∧ xn2 = t.n2 ∧ xd2 = t.c2 := ⟨⟨xs_, xp1, xp2, xn1, xd1, xn2, xd2⟩, rfl, rfl, rfl, rfl, rfl, rfl, rfl⟩
          rw [← hbM.cell (p := ⟨bl, ol + k * 3, none⟩) (unhide HBL)] at xk0
          rw [← hbM.cell (p := ⟨bl, ol + k * 3 + 1, none⟩) (unhide HBL)] at xk1
          rw [← hbM.cell (p := ⟨bl, ol + k * 3 + 2, none⟩) (unhide HBL)] at xk2
          have eP : (P[s]!)[k]! = p s k := by rw [unhide HPE]
          rw [eP] at xr
          have rsh := unhide HRPP s k hlt hltk
          have bA := alloc_below wr (.cells #[.bool tx.s, .slice tx.a1 tx.n1 tx.c1, .slice tx.a2 tx.n2 tx.c2] 37)
          have X5 := BoxIs.new (xr.below hbM)
          have M5 := hM.keep bA
          obtain ⟨W5, hW5⟩ : ∃ W, wr.alloc (.cells #[.bool tx.s, .slice tx.a1 tx.n1 tx.c1, .slice tx.a2 tx.n2 tx.c2] 37) = W := ⟨_, rfl⟩
          obtain ⟨gx, hgx⟩ : ∃ g, wr.heap.size = g := ⟨_, rfl⟩
          rw [hW5] at X5 M5
          rw [hgx] at X5
          have HCC : Hid (∀ W, Below W5.heap.size W5 W → (fun w' : World => w'.cell? ⟨G, s, none⟩ = some (.slice (some ⟨B, ro, none⟩) n n) ∧ (w'.cell? ⟨bw, 0, none⟩ = some (.bool t.s) ∧ w'.cell? ⟨bw, 1, none⟩ = some (.slice t.a1 t.n1 t.c1) ∧ w'.cell? ⟨bw, 2, none⟩ = some (.slice t.a2 t.n2 t.c2)) ∧ w'.cell? ⟨gx, 0, none⟩ = some (.bool tx.s) ∧ w'.cell? ⟨gx, 1, none⟩ = some (.slice tx.a1 tx.n1 tx.c1) ∧ w'.cell? ⟨gx, 2, none⟩ = some (.slice tx.a2 tx.n2 tx.c2)) W) := fun W hW => by
            have hh := (M5.keep hW).head hlt
            rw [unhide HRO] at hh
            exact ⟨hh, (unhide HX0).cells W (below_step M5.sum.bl hW), X5.cells W hW⟩
          have HWT := hide ((unhide HX0).2.below M5.sum.bl)
          have HSX := hide X5.2
          have HM5 := hide M5
          have HRS := hide (rsh.mono (show 1 ≤ 5 by omega))
          have HRP := hide (((unhide HRB).mul rsh).mono (show 1 + 1 ≤ 5 by omega))
          have ⟨q0, q1, q2⟩ := X5.cells _ (Below.refl _ _)
          clear hM hbM xr rsh bA X5 M5 eP
          go_wp2_with fail
          clear hW5 hgx xk0 xk1 xk2 q0 q1 q2
          refine wp_region_till (fun w' : World => w'.cell? ⟨G, s, none⟩ = some (.slice (some ⟨B, ro, none⟩) n n) ∧ (w'.cell? ⟨bw, 0, none⟩ = some (.bool t.s) ∧ w'.cell? ⟨bw, 1, none⟩ = some (.slice t.a1 t.n1 t.c1) ∧ w'.cell? ⟨bw, 2, none⟩ = some (.slice t.a2 t.n2 t.c2)) ∧ w'.cell? ⟨gx, 0, none⟩ = some (.bool tx.s) ∧ w'.cell? ⟨gx, 1, none⟩ = some (.slice tx.a1 tx.n1 tx.c1) ∧ w'.cell? ⟨gx, 2, none⟩ = some (.slice tx.a2 tx.n2 tx.c2)) 11 (by kernel_rfl) ?_
          have bd0 : Below W5.heap.size W5 W5.drew := (Below.refl _ _).drew
          have hC0 : (fun w' : World => w'.cell? ⟨G, s, none⟩ = some (.slice (some ⟨B, ro, none⟩) n n) ∧ (w'.cell? ⟨bw, 0, none⟩ = some (.bool t.s) ∧ w'.cell? ⟨bw, 1, none⟩ = some (.slice t.a1 t.n1 t.c1) ∧ w'.cell? ⟨bw, 2, none⟩ = some (.slice t.a2 t.n2 t.c2)) ∧ w'.cell? ⟨gx, 0, none⟩ = some (.bool tx.s) ∧ w'.cell? ⟨gx, 1, none⟩ = some (.slice tx.a1 tx.n1 tx.c1) ∧ w'.cell? ⟨gx, 2, none⟩ = some (.slice tx.a2 tx.n2 tx.c2)) W5.drew := unhide HCC _ bd0
          refine wpTill_pure (i := 0) (v := ?_) rfl (by kernel_rfl) (by kernel_rfl) (by kernel_rfl) (by kernel_rfl) (fun _ _ _ h => h) (Or.inl ⟨by rfl, ?_⟩) (fun _ => hC0) ?_
          rotate_left
          · intro w hSw; clear hSw; go_simp; (try with_reducible rfl)
          (try simp only [List.getElem_toArray, List.getElem_cons_succ, List.getElem_cons_zero])
          (try simp only [Act.put, List.setIfInBounds_toArray, List.set_cons_zero, List.set_cons_succ])
          refine wpTill_pure (i := 1) (v := ?_) rfl (by kernel_rfl) (by kernel_rfl) (by kernel_rfl) (by kernel_rfl) (fun _ _ _ h => h) (Or.inl ⟨by rfl, ?_⟩) (fun _ => hC0) ?_
          rotate_left
          · intro w hSw; clear hSw; go_simp; (try with_reducible rfl)
          (try simp only [List.getElem_toArray, List.getElem_cons_succ, List.getElem_cons_zero])
          (try simp only [Act.put, List.setIfInBounds_toArray, List.set_cons_zero, List.set_cons_succ])
          refine wpTill_pure (i := 2) (v := ?_) rfl (by kernel_rfl) (by kernel_rfl) (by kernel_rfl) (by kernel_rfl) (fun _ _ _ h => h) (Or.inl ⟨by rfl, ?_⟩) (fun _ => hC0) ?_
          rotate_left
          · intro w hSw; clear hSw; go_simp; (try with_reducible rfl)
          (try simp only [List.getElem_toArray, List.getElem_cons_succ, List.getElem_cons_zero])
          (try simp only [Act.put, List.setIfInBounds_toArray, List.set_cons_zero, List.set_cons_succ])
          refine wpTill_take (i := 3) (v := ?_) rfl (by kernel_rfl) (by kernel_rfl) (by kernel_rfl) (by kernel_rfl) (by kernel_rfl) (by kernel_rfl) (fun _ _ _ h => h) (Or.inl ⟨by rfl, ?_⟩) hC0 ?_
          rotate_left
          · intro w hSw; (try dsimp only at hSw); obtain ⟨z0, ⟨z1, z2, z3⟩, z4, z5, z6⟩ := hSw; go_simp; (try with_reducible rfl)
          (try simp only [List.getElem_toArray, List.getElem_cons_succ, List.getElem_cons_zero])
          (try simp only [Act.put, List.setIfInBounds_toArray, List.set_cons_zero, List.set_cons_succ])
          refine wpTill_pure (i := 4) (v := ?_) rfl (by kernel_rfl) (by kernel_rfl) (by kernel_rfl) (by kernel_rfl) (fun _ _ _ h => h) (Or.inl ⟨by rfl, ?_⟩) (fun _ => hC0) ?_
          rotate_left
          · intro w hSw; clear hSw; go_simp; (try with_reducible rfl)
          (try simp only [List.getElem_toArray, List.getElem_cons_succ, List.getElem_cons_zero])
          (try simp only [Act.put, List.setIfInBounds_toArray, List.set_cons_zero, List.set_cons_succ])
          refine wpTill_pure (i := 5) (v := ?_) rfl (by kernel_rfl) (by kernel_rfl) (by kernel_rfl) (by kernel_rfl) (fun _ _ _ h => h) (Or.inl ⟨by rfl, ?_⟩) (fun _ => hC0) ?_
          rotate_left
          · intro w hSw; clear hSw; go_simp; (try with_reducible rfl)
          (try simp only [List.getElem_toArray, List.getElem_cons_succ, List.getElem_cons_zero])
          (try simp only [Act.put, List.setIfInBounds_toArray, List.set_cons_zero, List.set_cons_succ])
          refine wpTill_take (i := 6) (v := ?_) rfl (by kernel_rfl) (by kernel_rfl) (by kernel_rfl) (by kernel_rfl) (by kernel_rfl) (by kernel_rfl) (fun _ _ _ h => h) (Or.inl ⟨by rfl, ?_⟩) hC0 ?_
          rotate_left
          · intro w hSw; (try dsimp only at hSw); obtain ⟨z0, ⟨z1, z2, z3⟩, z4, z5, z6⟩ := hSw; go_simp; (try with_reducible rfl)
          (try simp only [List.getElem_toArray, List.getElem_cons_succ, List.getElem_cons_zero])
          (try simp only [Act.put, List.setIfInBounds_toArray, List.set_cons_zero, List.set_cons_succ])
          refine wpTill_take (i := 7) (v := ?_) rfl (by kernel_rfl) (by kernel_rfl) (by kernel_rfl) (by kernel_rfl) (by kernel_rfl) (by kernel_rfl) (fun _ _ _ h => h) (Or.inl ⟨by rfl, ?_⟩) hC0 ?_
          rotate_left
          · intro w hSw; (try dsimp only at hSw); obtain ⟨z0, ⟨z1, z2, z3⟩, z4, z5, z6⟩ := hSw; go_simp; (try with_reducible rfl)
          (try simp only [List.getElem_toArray, List.getElem_cons_succ, List.getElem_cons_zero])
          (try simp only [Act.put, List.setIfInBounds_toArray, List.set_cons_zero, List.set_cons_succ])
          refine wpTill_one (k := 8) (by kernel_rfl) rfl (fun K hK => ?_)
          (try simp only [List.getElem_toArray, List.getElem_cons_succ, List.getElem_cons_zero])
          go_simp
          refine (mulR_any t.val tx.val _ _ _ ((unhide HWT).below bd0) ((unhide HSX).below bd0) 5 (unhide HRW) (unhide HRS) (by rw [KKe]; omega)).mono ?_
          rintro e xw_1 ⟨xv_1, rfl, hv_1, hb_1⟩
          have cc_1 := below_step bd0 hb_1
          have hC_1 : (fun w' : World => w'.cell? ⟨G, s, none⟩ = some (.slice (some ⟨B, ro, none⟩) n n) ∧ (w'.cell? ⟨bw, 0, none⟩ = some (.bool t.s) ∧ w'.cell? ⟨bw, 1, none⟩ = some (.slice t.a1 t.n1 t.c1) ∧ w'.cell? ⟨bw, 2, none⟩ = some (.slice t.a2 t.n2 t.c2)) ∧ w'.cell? ⟨gx, 0, none⟩ = some (.bool tx.s) ∧ w'.cell? ⟨gx, 1, none⟩ = some (.slice tx.a1 tx.n1 tx.c1) ∧ w'.cell? ⟨gx, 2, none⟩ = some (.slice tx.a2 tx.n2 tx.c2)) xw_1 := unhide HCC _ cc_1
          refine hK.out _ _ (fun _ => hC_1) ?_
          clear hK K
          (try simp only [Act.put, List.setIfInBounds_toArray, List.set_cons_zero, List.set_cons_succ])
          refine wpTill_one (k := 9) (by kernel_rfl) rfl (fun K hK => ?_)
          (try simp only [List.getElem_toArray, List.getElem_cons_succ, List.getElem_cons_zero])
          go_simp
          refine (subR_any _ _ _ _ _ (rat_zero _) hv_1 5 (unhide HRZ) (unhide HRP) (by rw [KKe]; omega)).mono ?_
          rintro e xw_2 ⟨xv_2, rfl, hv_2, hb_2⟩
          have cc_2 := below_step cc_1 hb_2
          have hC_2 : (fun w' : World => w'.cell? ⟨G, s, none⟩ = some (.slice (some ⟨B, ro, none⟩) n n) ∧ (w'.cell? ⟨bw, 0, none⟩ = some (.bool t.s) ∧ w'.cell? ⟨bw, 1, none⟩ = some (.slice t.a1 t.n1 t.c1) ∧ w'.cell? ⟨bw, 2, none⟩ = some (.slice t.a2 t.n2 t.c2)) ∧ w'.cell? ⟨gx, 0, none⟩ = some (.bool tx.s) ∧ w'.cell? ⟨gx, 1, none⟩ = some (.slice tx.a1 tx.n1 tx.c1) ∧ w'.cell? ⟨gx, 2, none⟩ = some (.slice tx.a2 tx.n2 tx.c2)) xw_2 := unhide HCC _ cc_2
          refine hK.out _ _ (fun _ => hC_2) ?_
          clear hK K
          (try simp only [Act.put, List.setIfInBounds_toArray, List.set_cons_zero, List.set_cons_succ])
          refine wpTill_pure (i := 10) (v := ?_) rfl (by kernel_rfl) (by kernel_rfl) (by kernel_rfl) (by kernel_rfl) (fun _ _ _ h => h) (Or.inl ⟨by rfl, ?_⟩) (fun _ => hC_2) ?_
          rotate_left
          · intro w hSw; clear hSw; go_simp; (try with_reducible rfl)
          (try simp only [List.getElem_toArray, List.getElem_cons_succ, List.getElem_cons_zero])
          (try simp only [Act.put, List.setIfInBounds_toArray, List.set_cons_zero, List.set_cons_succ])
          obtain ⟨t5, rfl, r5⟩ := tri_of hv_2
          simp only [Tri.val]
          have S8 := (unhide HM5).keep cc_2
          have ⟨⟨y0, y1, y2⟩, ⟨f0, f1, f2⟩, _⟩ := S8.cells (i := s) (j := k) hlt hltk
          have FZ := S8.set (i := s) (j := k) hlt hltk t5 _ r5
          rw [unhide HRO] at y0 y1 y2 f0 f1 f2 FZ
          obtain ⟨W9, hW9⟩ : ∃ W, ((xw_2.setCell ⟨B, ro + k * 3, none⟩ (.bool t5.s)).setCell ⟨B, ro + k * 3 + 1, none⟩ (.slice t5.a1 t5.n1 t5.c1)).setCell ⟨B, ro + k * 3 + 2, none⟩ (.slice t5.a2 t5.n2 t5.c2) = W := ⟨_, rfl⟩
          rw [hW9] at FZ
          have FZ2 := FZ.congr (N := fpm p b s (k + 1)) (fun i j _ _ => fpm_next p b s k i j)
          have HFZ := hide FZ2
          clear S8 FZ FZ2 r5 hv_1 hv_2
          refine wpTill_one (k := 11) (by kernel_rfl) rfl (fun K hK => ?_)
          (try simp only [List.getElem_toArray, List.getElem_cons_succ, List.getElem_cons_zero])
          go_simp
          refine hK.out _ _ (fun h => absurd (h.symm.trans (by kernel_rfl)) Bool.false_ne_true) ?_
          clear hK K
          (try simp only [Act.put, List.setIfInBounds_toArray, List.set_cons_zero, List.set_cons_succ])
          refine wpTill_done (by kernel_rfl) ?_ _
          clear HCC HWT HSX HM5
          clear y0 y1 y2 f0 f1 f2 hW9 hC0 hC_1 hC_2 cc_1 cc_2 bd0 hb_1 hb_2
          go_wp2_with fail
          exact ⟨⟨k + 1, _, by go_num, hltk, unhide HFZ⟩, by simp [intOf]; omega⟩
        · obtain rfl : k = n := by omega
          have g1' : ¬ (k : Int) < (k : Int) := by omega
          have ⟨d0, _, dr⟩ := hM.cells (i := s) (j := s) hlt hlt
          obtain ⟨td, htd⟩ : ∃ t, us'[s * k + s]! = t := ⟨_, rfl⟩
          rw [htd] at d0 dr
          rw [fpm_at p b hlt] at dr
          have HCC : Hid (∀ W, Below wr.heap.size wr W → (fun w' : World => w'.cell? ⟨G, s, none⟩ = some (.slice (some ⟨B, ro, none⟩) k k) ∧ (w'.cell? ⟨B, ro + s * 3, none⟩ = some (.bool td.s) ∧ w'.cell? ⟨B, ro + s * 3 + 1, none⟩ = some (.slice td.a1 td.n1 td.c1) ∧ w'.cell? ⟨B, ro + s * 3 + 2, none⟩ = some (.slice td.a2 td.n2 td.c2))) W) := fun W hW => by
            have hh := (hM.keep hW).head hlt
            have ⟨d0, _, _⟩ := (hM.keep hW).cells (i := s) (j := s) hlt hlt
            rw [htd] at d0
            rw [unhide HRO] at hh d0
            exact ⟨hh, d0⟩
          have HTD := hide dr
          have HM5 := hide hM
          have HRD : Hid (RS (0 - b * p s s) 5) := RS.mono (RS.sub' RS.zero ((unhide HRB).mul (unhide HRPP s s hlt hlt))) (by omega)
          clear hM d0 dr htd
          go_wp2_with fail
          refine wp_region_till (fun w' : World => w'.cell? ⟨G, s, none⟩ = some (.slice (some ⟨B, ro, none⟩) k k) ∧ (w'.cell? ⟨B, ro + s * 3, none⟩ = some (.bool td.s) ∧ w'.cell? ⟨B, ro + s * 3 + 1, none⟩ = some (.slice td.a1 td.n1 td.c1) ∧ w'.cell? ⟨B, ro + s * 3 + 2, none⟩ = some (.slice td.a2 td.n2 td.c2))) 15 (by kernel_rfl) ?_
          have bd0 : Below wr.heap.size wr wr.drew := (Below.refl _ _).drew
          obtain ⟨Wd, hWd⟩ : ∃ W, wr.drew = W := ⟨_, rfl⟩
          rw [hWd] at bd0 ⊢
          have hC0 : (fun w' : World => w'.cell? ⟨G, s, none⟩ = some (.slice (some ⟨B, ro, none⟩) k k) ∧ (w'.cell? ⟨B, ro + s * 3, none⟩ = some (.bool td.s) ∧ w'.cell? ⟨B, ro + s * 3 + 1, none⟩ = some (.slice td.a1 td.n1 td.c1) ∧ w'.cell? ⟨B, ro + s * 3 + 2, none⟩ = some (.slice td.a2 td.n2 td.c2))) Wd := unhide HCC _ bd0
          refine wpTill_pure (i := 0) (v := ?_) rfl (by kernel_rfl) (by kernel_rfl) (by kernel_rfl) (by kernel_rfl) (fun _ _ _ h => h) (Or.inl ⟨by rfl, ?_⟩) (fun _ => hC0) ?_
          rotate_left
          · intro w hSw; clear hSw; go_simp; (try with_reducible rfl)
          (try simp only [List.getElem_toArray, List.getElem_cons_succ, List.getElem_cons_zero])
          (try simp only [Act.put, List.setIfInBounds_toArray, List.set_cons_zero, List.set_cons_succ])
          refine wpTill_pure (i := 1) (v := ?_) rfl (by kernel_rfl) (by kernel_rfl) (by kernel_rfl) (by kernel_rfl) (fun _ _ _ h => h) (Or.inl ⟨by rfl, ?_⟩) (fun _ => hC0) ?_
          rotate_left
          · intro w hSw; clear hSw; go_simp; (try with_reducible rfl)
          (try simp only [List.getElem_toArray, List.getElem_cons_succ, List.getElem_cons_zero])
          (try simp only [Act.put, List.setIfInBounds_toArray, List.set_cons_zero, List.set_cons_succ])
          refine wpTill_pure (i := 2) (v := ?_) rfl (by kernel_rfl) (by kernel_rfl) (by kernel_rfl) (by kernel_rfl) (fun _ _ _ h => h) (Or.inl ⟨by rfl, ?_⟩) (fun _ => hC0) ?_
          rotate_left
          · intro w hSw; clear hSw; go_simp; (try with_reducible rfl)
          (try simp only [List.getElem_toArray, List.getElem_cons_succ, List.getElem_cons_zero])
          (try simp only [Act.put, List.setIfInBounds_toArray, List.set_cons_zero, List.set_cons_succ])
          refine wpTill_take (i := 3) (v := ?_) rfl (by kernel_rfl) (by kernel_rfl) (by kernel_rfl) (by kernel_rfl) (by kernel_rfl) (by kernel_rfl) (fun _ _ _ h => h) (Or.inl ⟨by rfl, ?_⟩) hC0 ?_
          rotate_left
          · intro w hSw; (try dsimp only at hSw); obtain ⟨z0, ⟨z1, z2, z3⟩⟩ := hSw; go_simp; (try with_reducible rfl)
          (try simp only [List.getElem_toArray, List.getElem_cons_succ, List.getElem_cons_zero])
          (try simp only [Act.put, List.setIfInBounds_toArray, List.set_cons_zero, List.set_cons_succ])
          refine wpTill_pure (i := 4) (v := ?_) rfl (by kernel_rfl) (by kernel_rfl) (by kernel_rfl) (by kernel_rfl) (fun _ _ _ h => h) (Or.inl ⟨by rfl, ?_⟩) (fun _ => hC0) ?_
          rotate_left
          · intro w hSw; clear hSw; go_simp; (try with_reducible rfl)
          (try simp only [List.getElem_toArray, List.getElem_cons_succ, List.getElem_cons_zero])
          (try simp only [Act.put, List.setIfInBounds_toArray, List.set_cons_zero, List.set_cons_succ])
          refine wpTill_pure (i := 5) (v := ?_) rfl (by kernel_rfl) (by kernel_rfl) (by kernel_rfl) (by kernel_rfl) (fun _ _ _ h => h) (Or.inl ⟨by rfl, ?_⟩) (fun _ => hC0) ?_
          rotate_left
          · intro w hSw; clear hSw; go_simp; (try with_reducible rfl)
          (try simp only [List.getElem_toArray, List.getElem_cons_succ, List.getElem_cons_zero])
          (try simp only [Act.put, List.setIfInBounds_toArray, List.set_cons_zero, List.set_cons_succ])
          refine wpTill_pure (i := 6) (v := ?_) rfl (by kernel_rfl) (by kernel_rfl) (by kernel_rfl) (by kernel_rfl) (fun _ _ _ h => h) (Or.inl ⟨by rfl, ?_⟩) (fun _ => hC0) ?_
          rotate_left
          · intro w hSw; clear hSw; go_simp; (try with_reducible rfl)
          (try simp only [List.getElem_toArray, List.getElem_cons_succ, List.getElem_cons_zero])
          (try simp only [Act.put, List.setIfInBounds_toArray, List.set_cons_zero, List.set_cons_succ])
          refine wpTill_pure (i := 7) (v := ?_) rfl (by kernel_rfl) (by kernel_rfl) (by kernel_rfl) (by kernel_rfl) (fun _ _ _ h => h) (Or.inl ⟨by rfl, ?_⟩) (fun _ => hC0) ?_
          rotate_left
          · intro w hSw; clear hSw; go_simp; (try with_reducible rfl)
          (try simp only [List.getElem_toArray, List.getElem_cons_succ, List.getElem_cons_zero])
          (try simp only [Act.put, List.setIfInBounds_toArray, List.set_cons_zero, List.set_cons_succ])
          refine wpTill_take (i := 8) (v := ?_) rfl (by kernel_rfl) (by kernel_rfl) (by kernel_rfl) (by kernel_rfl) (by kernel_rfl) (by kernel_rfl) (fun _ _ _ h => h) (Or.inl ⟨by rfl, ?_⟩) hC0 ?_
          rotate_left
          · intro w hSw; (try dsimp only at hSw); obtain ⟨z0, ⟨z1, z2, z3⟩⟩ := hSw; go_simp; (try with_reducible rfl)
          (try simp only [List.getElem_toArray, List.getElem_cons_succ, List.getElem_cons_zero])
          (try simp only [Act.put, List.setIfInBounds_toArray, List.set_cons_zero, List.set_cons_succ])
          refine wpTill_pure (i := 9) (v := ?_) rfl (by kernel_rfl) (by kernel_rfl) (by kernel_rfl) (by kernel_rfl) (fun _ _ _ h => h) (Or.inl ⟨by rfl, ?_⟩) (fun _ => hC0) ?_
          rotate_left
          · intro w hSw; clear hSw; go_simp; (try with_reducible rfl)
          (try simp only [List.getElem_toArray, List.getElem_cons_succ, List.getElem_cons_zero])
          (try simp only [Act.put, List.setIfInBounds_toArray, List.set_cons_zero, List.set_cons_succ])
          refine wpTill_pure (i := 10) (v := ?_) rfl (by kernel_rfl) (by kernel_rfl) (by kernel_rfl) (by kernel_rfl) (fun _ _ _ h => h) (Or.inl ⟨by rfl, ?_⟩) (fun _ => hC0) ?_
          rotate_left
          · intro w hSw; clear hSw; go_simp; (try with_reducible rfl)
          (try simp only [List.getElem_toArray, List.getElem_cons_succ, List.getElem_cons_zero])
          (try simp only [Act.put, List.setIfInBounds_toArray, List.set_cons_zero, List.set_cons_succ])
          refine wpTill_take (i := 11) (v := ?_) rfl (by kernel_rfl) (by kernel_rfl) (by kernel_rfl) (by kernel_rfl) (by kernel_rfl) (by kernel_rfl) (fun _ _ _ h => h) (Or.inl ⟨by rfl, ?_⟩) hC0 ?_
          rotate_left
          · intro w hSw; (try dsimp only at hSw); obtain ⟨z0, ⟨z1, z2, z3⟩⟩ := hSw; go_simp; (try with_reducible rfl)
          (try simp only [List.getElem_toArray, List.getElem_cons_succ, List.getElem_cons_zero])
          (try simp only [Act.put, List.setIfInBounds_toArray, List.set_cons_zero, List.set_cons_succ])
          refine wpTill_one (k := 12) (by kernel_rfl) rfl (fun K hK => ?_)
          (try simp only [List.getElem_toArray, List.getElem_cons_succ, List.getElem_cons_zero])
          go_simp
          refine (whole_any 1 (by decide) (by decide) _).mono ?_
          rintro e xw_1 ⟨xv_1, rfl, hv_1, hb_1⟩
          have cc_1 := below_step bd0 hb_1
          have hC_1 : (fun w' : World => w'.cell? ⟨G, s, none⟩ = some (.slice (some ⟨B, ro, none⟩) k k) ∧ (w'.cell? ⟨B, ro + s * 3, none⟩ = some (.bool td.s) ∧ w'.cell? ⟨B, ro + s * 3 + 1, none⟩ = some (.slice td.a1 td.n1 td.c1) ∧ w'.cell? ⟨B, ro + s * 3 + 2, none⟩ = some (.slice td.a2 td.n2 td.c2))) xw_1 := unhide HCC _ cc_1
          refine hK.out _ _ (fun _ => hC_1) ?_
          clear hK K
          (try simp only [Act.put, List.setIfInBounds_toArray, List.set_cons_zero, List.set_cons_succ])
          refine wpTill_one (k := 13) (by kernel_rfl) rfl (fun K hK => ?_)
          (try simp only [List.getElem_toArray, List.getElem_cons_succ, List.getElem_cons_zero])
          go_simp
          refine (addR_any td.val _ _ _ _ ((unhide HTD).below cc_1) hv_1 5 (unhide HRD) (unhide HR1) (by rw [KKe]; omega)).mono ?_
          rintro e xw_2 ⟨xv_2, rfl, hv_2, hb_2⟩
          have cc_2 := below_step cc_1 hb_2
          have hC_2 : (fun w' : World => w'.cell? ⟨G, s, none⟩ = some (.slice (some ⟨B, ro, none⟩) k k) ∧ (w'.cell? ⟨B, ro + s * 3, none⟩ = some (.bool td.s) ∧ w'.cell? ⟨B, ro + s * 3 + 1, none⟩ = some (.slice td.a1 td.n1 td.c1) ∧ w'.cell? ⟨B, ro + s * 3 + 2, none⟩ = some (.slice td.a2 td.n2 td.c2))) xw_2 := unhide HCC _ cc_2
          refine hK.out _ _ (fun _ => hC_2) ?_
          clear hK K
          (try simp only [Act.put, List.setIfInBounds_toArray, List.set_cons_zero, List.set_cons_succ])
          refine wpTill_pure (i := 14) (v := ?_) rfl (by kernel_rfl) (by kernel_rfl) (by kernel_rfl) (by kernel_rfl) (fun _ _ _ h => h) (Or.inl ⟨by rfl, ?_⟩) (fun _ => hC_2) ?_
          rotate_left
          · intro w hSw; clear hSw; go_simp; (try with_reducible rfl)
          (try simp only [List.getElem_toArray, List.getElem_cons_succ, List.getElem_cons_zero])
          (try simp only [Act.put, List.setIfInBounds_toArray, List.set_cons_zero, List.set_cons_succ])
          obtain ⟨t5, rfl, r5⟩ := tri_of hv_2
          simp only [Tri.val]
          have S8 := (unhide HM5).keep cc_2
          have ⟨⟨y0, y1, y2⟩, ⟨f0, f1, f2⟩, _⟩ := S8.cells (i := s) (j := s) hlt hlt
          have FZ := S8.set (i := s) (j := s) hlt hlt t5 _ r5
          rw [unhide HRO] at y0 y1 y2 f0 f1 f2 FZ
          obtain ⟨W9, hW9⟩ : ∃ W, ((xw_2.setCell ⟨B, ro + s * 3, none⟩ (.bool t5.s)).setCell ⟨B, ro + s * 3 + 1, none⟩ (.slice t5.a1 t5.n1 t5.c1)).setCell ⟨B, ro + s * 3 + 2, none⟩ (.slice t5.a2 t5.n2 t5.c2) = W := ⟨_, rfl⟩
          rw [hW9] at FZ
          have FZ : OneMat W0 W9 G B k (us'.set (s * k + s) t5) (upm (fpm p b s k) s s (0 - b * p s s + 1)) := FZ
          have FZ2 := FZ.congr (N := fpm p b (s + 1) 0) (fun i j _ hj => fpm_row p b i j hj)
          have HFZ := hide FZ2
          clear S8 FZ FZ2 r5 hv_1 hv_2
          refine wpTill_one (k := 15) (by kernel_rfl) rfl (fun K hK => ?_)
          (try simp only [List.getElem_toArray, List.getElem_cons_succ, List.getElem_cons_zero])
          go_simp
          refine hK.out _ _ (fun h => absurd (h.symm.trans (by kernel_rfl)) Bool.false_ne_true) ?_
          clear hK K
          (try simp only [Act.put, List.setIfInBounds_toArray, List.set_cons_zero, List.set_cons_succ])
          refine wpTill_done (by kernel_rfl) ?_ _
          clear HCC HTD HM5
          clear y0 y1 y2 f0 f1 f2 hW9 hC0 hC_1 hC_2 cc_1 cc_2 bd0 hb_1 hb_2 hWd
          go_wp2_with fail
          exact ⟨⟨s + 1, _, by go_num, hlt, unhide HFZ⟩, by simp [intOf]; omega⟩
    · obtain rfl : s = n := by omega
      have e1 : ¬ (s : Int) < (s : Int) := by omega
      have HC := hide (unhide HSV wr G B us hM)
      have HB := hide (below_step (unhide HB0) hM.sum.bl)
      clear hM
      go_wp2_with fail
      refine (unhide HC).mono ?_
      rintro e w5 (⟨v5, x, rfl, hv5, hx5, hr5, hb5⟩ | ⟨⟨y, hy, i, hi, hy1⟩, rfl, hb5⟩)
      · have HV5 := hide hv5
        obtain ⟨a5, c5, rfl, _, _, _⟩ := hv5
        rw [row_length] at HV5 ⊢
        have HX5 := hide hx5
        have HR5 := hide hr5
        have HB5 := hide (below_step (unhide HB) hb5)
        clear hx5 hr5 hb5 HC
        go_wp2
        go_ret
        refine ⟨_, x, rfl, unhide HV5, fun i hi => ?_, unhide HR5, unhide HB5⟩
        have := unhide HEQ x 1 (unhide HX5).1 i hi
        rw [Rat.mul_one] at this
        exact this
      · exfalso
        have := unhide HEZ y (fun i hi => by
          have := unhide HEQ y 0 hy i hi
          rw [Rat.mul_zero, Rat.zero_add] at this
          exact this) i hi
        rw [hy1] at this
        exact absurd this (by decide)

end Go.Proofs.YtjlohghknejjoaaGreatDoor
