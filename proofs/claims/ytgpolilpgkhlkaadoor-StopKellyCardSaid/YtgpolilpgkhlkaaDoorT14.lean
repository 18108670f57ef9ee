/- Chains: the envelope. -/
import Derived.Test.YtgpolilpgkhlkaaDoorT13
namespace Go.Proofs.YtgpolilpgkhlkaaDoor
open Go.RowKit Go.Sort Go.Shelf

theorem on_congr {M : Stp.Ch} {x y : Nat → Rat} (h : ∀ k, k < M.n → x k = y k) (i : Nat) : Stp.on M x i = Stp.on M y i := by
  unfold Stp.on
  rw [Bth.ps_congr _ (fun k hk => by rw [h k hk])]
def eb : Nat → Nat
  | 0 => 1
  | t + 1 => 8 * (eb t + 2) + 3
theorem eb_le {t : Nat} (h : t ≤ 5) : eb t ≤ 200000 := by
  match t, h with
  | 0, _ | 1, _ | 2, _ | 3, _ | 4, _ | 5, _ => decide
theorem mx_RS {a b : Rat} {J : Nat} (ha : RS a J) (hb : RS b J) : RS (Stp.mx a b) J := by
  unfold Stp.mx
  split
  · exact hb
  · exact ha
theorem env_RS {P : List (List Rat)} {gs : List Rat} {c : Rat} (sm : SmC P gs c) (gm : GoodC P gs) : ∀ (t i : Nat), i < P.length → RS (Stp.env (chn P gs c) t i) (eb t)
  | 0, i, hi => sm.rg i (by rw [gm.gl]; exact hi)
  | t + 1, i, hi => mx_RS ((sm.rg i (by rw [gm.gl]; exact hi)).mono (by show 1 ≤ 8 * (eb t + 2) + 3; omega)) (on_RS sm gm hi (fun j hj => env_RS sm gm t j hj))
theorem env_small {P : List (List Rat)} {gs : List Rat} {c : Rat} (sm : SmC P gs c) (gm : GoodC P gs) {t i : Nat} (ht : t ≤ 5) (hi : i < P.length) : RS (Stp.env (chn P gs c) t i) 200000 := (env_RS sm gm t i hi).mono (eb_le ht)
/-- The envelope's rows. -/
def emat (M : Stp.Ch) (n T : Nat) : List (List Rat) := (List.range T).map fun t => row (Stp.env M t) n
theorem emat_length (M : Stp.Ch) (n T : Nat) : (emat M n T).length = T := by simp [emat]
theorem emat_get {M : Stp.Ch} {n T t : Nat} (h : t < T) : (emat M n T)[t]! = row (Stp.env M t) n := by simp [emat, h]
/-- What the loop over times holds. -/
structure EnvS (W0 wr : World) (GO T n cnt : Nat) (ls : Nat → Sl) (M : Stp.Ch) : Prop where
  hd : HdAt W0 wr GO T cnt ls
  law : ∀ i, i < cnt → LawIs wr (ls i).val (row (Stp.env M i) n)
theorem EnvS.keep {W0 wr w' : World} {GO T n cnt : Nat} {ls : Nat → Sl} {M : Stp.Ch} (h : EnvS W0 wr GO T n cnt ls M) (hb : Below wr.heap.size wr w') : EnvS W0 w' GO T n cnt ls M := ⟨h.hd.keep hb, fun i hi => (h.law i hi).below hb⟩
theorem EnvS.push {W0 wr : World} {GO T n cnt : Nat} {ls : Nat → Sl} {M : Stp.Ch} (h : EnvS W0 wr GO T n cnt ls M) (l : Sl) (hl : LawIs wr l.val (row (Stp.env M cnt) n)) : EnvS W0 (wr.setCell ⟨GO, cnt, none⟩ (.slice l.a l.n l.c)) GO T n (cnt + 1) (upl ls cnt l) M := by
  refine ⟨h.hd.push l, fun i hi => ?_⟩
  unfold upl
  by_cases e : i = cnt
  · subst e
    rw [if_pos rfl]
    exact hl.headed h.hd.out _
  · rw [if_neg e]
    exact (h.law i (by omega)).headed h.hd.out _

set_option maxHeartbeats 16000000 in
set_option maxRecDepth 100000 in
set_option linter.unusedSimpArgs false in
theorem envelope_any (v : Value) (P : List (List Rat)) (gs : List Rat) (c : Rat) (times : Nat) (w : World) (h : ChainIs w v P gs c) (sm : SmC P gs c) (gm : GoodC P gs) (ht : times ≤ 5) :
    Calls Tryd.prog 31 #[v, .int .i64 (times : Int)] w fun e w' => ∃ v, e = .returned v ∧ RowsAre w' v (emat (chn P gs c) P.length (times + 1)) ∧ Below w.heap.size w w' := by
  have KKe : KK = 1099511627776 := rfl
  obtain ⟨l, m, t, rfl, hS, hT, hR⟩ := h
  have hln := rows_len hS
  have hmn := law_len hT
  have X0 := CBox.new hS hT hR
  have b0 := alloc_below w (.cells #[.slice l.a l.n l.c, .slice m.a m.n m.c, .bool t.s, .slice t.a1 t.n1 t.c1, .slice t.a2 t.n2 t.c2] 37)
  obtain ⟨W0, hW0⟩ : ∃ W, w.alloc (.cells #[.slice l.a l.n l.c, .slice m.a m.n m.c, .bool t.s, .slice t.a1 t.n1 t.c1, .slice t.a2 t.n2 t.c2] 37) = W := ⟨_, rfl⟩
  obtain ⟨bx, hbx⟩ : ∃ b, w.heap.size = b := ⟨_, rfl⟩
  rw [hW0] at X0 b0
  rw [hbx] at X0
  have ⟨c0, c1, c2, c3, c4⟩ := X0.cells _ (Below.refl _ _)
  have HX0 := hide X0
  have HB0 := hide b0
  obtain ⟨n, hn⟩ : ∃ n, P.length = n := ⟨_, rfl⟩
  have HN := hide hn
  rw [hn] at hln
  rw [gm.gl, hn] at hmn
  rw [hln] at c0
  rw [hmn] at c1
  unfold cval
  rw [hln, hmn] at hW0 ⊢
  have HLN := hide hln
  have HMN := hide hmn
  clear hS hT hR X0 b0 hn hln hmn
  have hn8 := gm.n8
  have hn1 := gm.n1
  rw [unhide HN] at hn8 hn1
  have HSM := hide sm
  have HGM := hide gm
  obtain ⟨T, hT⟩ : ∃ T, times + 1 = T := ⟨_, rfl⟩
  rw [hT, unhide HN]
  have eT : IntKind.i64.wrap ((times : Int) + 1) = (T : Int) := by rw [IntKind.wrap_i64]; omega
  have eT1 : (0 : Int) < (T : Int) := by omega
  have qmk := make_rows (T : Int) (by omega) (by omega) (fun _ => (none, 0, 0)) W0
  rw [Int.toNat_natCast] at qmk
  have bM := alloc_below W0 (.cells (hdl T 0 (fun _ => (none, 0, 0))).toArray 31)
  have HH0 : HdAt W0 (W0.alloc (.cells (hdl T 0 (fun _ => (none, 0, 0))).toArray 31)) W0.heap.size T 0 (fun _ => (none, 0, 0)) := ⟨heap_alloc_new W0 _, Nat.le_refl _, bM⟩
  obtain ⟨W1, hW1⟩ : ∃ W, W0.alloc (.cells (hdl T 0 (fun _ => (none, 0, 0))).toArray 31) = W := ⟨_, rfl⟩
  obtain ⟨GO, hGO⟩ : ∃ G, W0.heap.size = G := ⟨_, rfl⟩
  rw [hW1] at qmk bM HH0
  rw [hGO] at qmk HH0
  have HHD := hide HH0
  have ⟨d0, d1, d2, d3, d4⟩ := (unhide HX0).cells _ bM
  rw [unhide HLN] at d0
  rw [unhide HMN] at d1
  have HBM := hide bM
  have hgl := gm.gl
  rw [unhide HN] at hgl
  have HGL := hide hgl
  have HCL := hide (rclone_any m.val gs W1 ((unhide HX0).2.2.1.below bM) (by omega) (by omega))
  obtain ⟨M, hM⟩ : ∃ M, chn P gs c = M := ⟨_, rfl⟩
  rw [hM]
  have HM := hide hM
  have HMn : Hid (M.n = n) := by show M.n = n; rw [← hM]; exact unhide HN
  unfold ClonePost at HCL
  rw [hgl] at HCL
  simp only [Sl.val] at HCL
  rw [unhide HMN] at HCL
  clear HH0 bM sm gm hM hgl
  go_enter Tryd.func31, Tryd.ntmps31
  go_wp2_with fail
  clear hW0 hbx c0 c1 c2 c3 c4 d0 d1 d2 d3 d4 qmk hW1 hGO eT
  refine (unhide HCL).mono ?_
  rintro e w1 ⟨G0, us0, rfl, S0, hu0, hu1⟩
  have hE0 : EnvS W0 w1 GO T n 0 (fun _ => (none, 0, 0)) M := ⟨(unhide HHD).keep S0.bl, fun i hi => absurd hi (Nat.not_lt_zero _)⟩
  have hl0 : LawIs w1 (.slice (some ⟨G0, 0, none⟩) n us0.length) (row (Stp.env M 0) n) := S0.law_take hu1 (by omega) (row_length _ _) (fun j hj => by
    rw [row_get hj, ← unhide HM]
    show gs[j]! = _
    rw [List.getElem!_eq_getElem?_getD, List.getElem!_eq_getElem?_getD, List.getElem?_append_left (by rw [unhide HGL]; exact hj)])
  have hE1 := hE0.push (some ⟨G0, 0, none⟩, n, us0.length) hl0
  have yf := hdl_free hE0.hd.out 0
  have yc := hdl_cell0 hE0.hd.out (i := 0) (by omega) (by omega)
  obtain ⟨k0, hk0⟩ : ∃ k, us0.length = k := ⟨_, rfl⟩
  rw [hk0] at hE1 ⊢
  obtain ⟨W2, hW2⟩ : ∃ W, w1.setCell ⟨GO, 0, none⟩ (.slice (some ⟨G0, 0, none⟩) n k0) = W := ⟨_, rfl⟩
  have HE1 : Hid (EnvS W0 W2 GO T n 1 (upl (fun _ => (none, 0, 0)) 0 (some ⟨G0, 0, none⟩, n, k0)) M) := by rw [← hW2]; exact hE1
  clear hE0 hl0 hE1 S0 hu0 hu1 hk0 HCL HHD
  go_wp2_with fail
  clear hW2 yf yc
  obtain ⟨tm, htm⟩ : ∃ x, times = x := ⟨_, rfl⟩
  subst htm
  go_loopw [19] (fun vq wr => ∃ (q : Nat) (ls : Nat → Sl), vq = .int .i64 (q : Int) ∧ q ≤ times ∧ EnvS W0 wr GO T n (q + 1) ls M) (fun vq _ => times - (intOf vq).toNat)
  case atStart => exact ⟨0, _, rfl, Nat.zero_le _, unhide HE1⟩
  case round =>
    obtain ⟨q, ls, rfl, hq, S⟩ := hrel
    clear HE1
    by_cases hlt : q < times
    · have f1 : (q : Int) < (times : Int) := by omega
      have f0 : (0 : Int) ≤ (q : Int) := by omega
      have f2 : (q : Int) < (T : Int) := by omega
      have f3 : IntKind.i64.wrap ((q : Int) + 1) = ((q + 1 : Nat) : Int) := by rw [IntKind.wrap_i64]; omega
      have f4 : ((q + 1 : Nat) : Int) < (T : Int) := by omega
      have f5 : (0 : Int) ≤ ((q + 1 : Nat) : Int) := by omega
      have ⟨d0, d1, d2, d3, d4⟩ := (unhide HX0).cells _ S.hd.bl
      rw [unhide HLN] at d0
      rw [unhide HMN] at d1
      have qm2 := make_ratios (n : Int) (by omega) (by omega) wr
      rw [Int.toNat_natCast] at qm2
      have S3 := SumsAt.start wr wr n (Below.refl _ _)
      have bA := alloc_below wr (.cells (tcells (List.replicate n zTri)).toArray 35)
      obtain ⟨W1', hW1⟩ : ∃ W, wr.alloc (.cells (tcells (List.replicate n zTri)).toArray 35) = W := ⟨_, rfl⟩
      obtain ⟨G3, hG3⟩ : ∃ G, wr.heap.size = G := ⟨_, rfl⟩
      rw [hW1] at qm2 S3 bA
      rw [hG3] at qm2
      have S3' : SumsAt wr W1' G3 (List.replicate n zTri) (fill (Stp.env M (q + 1)) n 0) := by rw [← hG3, ← fill_zero]; exact S3
      have HS3 := hide S3'
      have ⟨b0, b1, b2, b3, b4⟩ := (unhide HX0).cells _ (below_step S.hd.bl bA)
      rw [unhide HLN] at b0
      rw [unhide HMN] at b1
      have HES := hide S
      clear S S3 S3' bA
      go_wp2_with fail
      clear d0 d1 d2 d3 d4 b0 b1 b2 b3 b4 qm2 hW1 hG3
      obtain ⟨V, hV⟩ : ∃ V, wr = V := ⟨_, rfl⟩
      rw [hV] at HES HS3
      clear hV
      go_loopw [29] (fun vj wv => ∃ (j : Nat) (ws : List Tri), vj = .int .i64 (j : Int) ∧ j ≤ n ∧ ws.length = n ∧ SumsAt V wv G3 ws (fill (Stp.env M (q + 1)) n j)) (fun vj _ => n - (intOf vj).toNat)
      case atStart => exact ⟨0, _, rfl, Nat.zero_le _, List.length_replicate, unhide HS3⟩
      case round =>
        obtain ⟨j, ws, rfl, hj, hws, T3⟩ := hrel
        clear HS3
        by_cases hltj : j < n
        · have j1 : (j : Int) < (n : Int) := by omega
          have j0 : (0 : Int) ≤ (j : Int) := by omega
          have hltP : j < P.length := by rw [unhide HN]; exact hltj
          have bVW := below_step (unhide HES).hd.bl T3.bl
          obtain ⟨am, cm, em, _, _, hm3⟩ := (unhide HX0).2.2.1.below bVW
          obtain ⟨bm, om, eam, hmlt, hcm⟩ := hm3 (by rw [unhide HGL]; omega)
          have ema : m.a = some ⟨bm, om, none⟩ := by injection em with e1; rw [e1, eam]
          obtain ⟨s', p1, p2, m1, d1, m2, d2, k0, k1, k2, r⟩ := hcm j (by rw [unhide HGL]; exact hltj)
          obtain ⟨tx, rfl, rfl, rfl, rfl, rfl, rfl, rfl⟩ : ∃ t : Tri, s' = t.s ∧ p1 = t.a1 ∧ p2 = t.a2 ∧ m1 = t.n1 ∧ d1 = t.c1 ∧ m2 = t.n2 ∧ d2 = t.c2 := ⟨⟨s', p1, p2, m1, d1, m2, d2⟩, rfl, rfl, rfl, rfl, rfl, rfl, rfl⟩
          have rx : RatIs wr tx.val gs[j]! := r
          have bA := alloc_below wr (.cells #[.bool tx.s, .slice tx.a1 tx.n1 tx.c1, .slice tx.a2 tx.n2 tx.c2] 35)
          have T5 := T3.keep bA
          have X5 := BoxIs.new rx
          have E5 := ((unhide HES).keep T3.bl).keep bA
          obtain ⟨W5, hW5⟩ : ∃ W, wr.alloc (.cells #[.bool tx.s, .slice tx.a1 tx.n1 tx.c1, .slice tx.a2 tx.n2 tx.c2] 35) = W := ⟨_, rfl⟩
          obtain ⟨gx, hgx⟩ : ∃ g, wr.heap.size = g := ⟨_, rfl⟩
          rw [hW5] at T5 X5 E5
          rw [hgx] at X5
          have MX := (unhide HX0).keep E5.hd.bl
          have hlw := E5.law q (by omega)
          have hln := law_len hlw
          rw [row_length] at hln
          have hc8 := hdl_cell E5.hd.out (i := q) (by omega) (by omega)
          have hGl := E5.hd.lt
          rw [hln] at hc8
          obtain ⟨lsa, elsa⟩ : ∃ a, (ls q).a = a := ⟨_, rfl⟩
          obtain ⟨lsc, elsc⟩ : ∃ a, (ls q).c = a := ⟨_, rfl⟩
          simp only [Sl.val] at hlw
          rw [hln, elsa, elsc] at hlw
          rw [elsa, elsc] at hc8
          have HCC : Hid (∀ W, Below W5.heap.size W5 W → (fun w' : World => (w'.cell? ⟨bx, 0, none⟩ = some (.slice l.a n l.c) ∧ w'.cell? ⟨bx, 1, none⟩ = some (.slice m.a n m.c) ∧ w'.cell? ⟨bx, 2, none⟩ = some (.bool t.s) ∧ w'.cell? ⟨bx, 3, none⟩ = some (.slice t.a1 t.n1 t.c1) ∧ w'.cell? ⟨bx, 4, none⟩ = some (.slice t.a2 t.n2 t.c2)) ∧ (w'.cell? ⟨gx, 0, none⟩ = some (.bool tx.s) ∧ w'.cell? ⟨gx, 1, none⟩ = some (.slice tx.a1 tx.n1 tx.c1) ∧ w'.cell? ⟨gx, 2, none⟩ = some (.slice tx.a2 tx.n2 tx.c2)) ∧ w'.cell? ⟨GO, q, none⟩ = some (.slice lsa n lsc)) W) := fun W hW => by
            have mc := MX.cells W hW
            rw [unhide HLN, unhide HMN] at mc
            refine ⟨mc, X5.cells W hW, ?_⟩
            rw [hW.cell (p := ⟨GO, q, none⟩) hGl]; exact hc8
          have hon : Stp.on (chn P gs c) (bf (row (Stp.env M q) n)) j = Stp.on M (Stp.env M q) j := by
            rw [unhide HM]
            exact on_congr (fun k hk => row_get (by rw [unhide HMn] at hk; exact hk)) j
          have HGO : Hid (∀ W, Below W5.heap.size W5 W → Calls Tryd.prog 42 #[.agg #[.slice l.a n l.c, .slice m.a n m.c, .bool t.s, .slice t.a1 t.n1 t.c1, .slice t.a2 t.n2 t.c2], .int .i64 (j : Int), .slice lsa n lsc] W fun e w' => ∃ v, e = .returned v ∧ RatIs w' v (Stp.on M (Stp.env M q) j) ∧ Below W.heap.size W w') := fun W hW => by
            have := going_any (cval l m t) (.slice lsa n lsc) P gs c (row (Stp.env M q) n) j 200000 W (MX.keep hW).chain (unhide HSM) (unhide HGM) hltP (hlw.below hW) (by rw [row_length]; exact (unhide HN).symm) (fun u hu => by
              rw [row_get (by rw [← unhide HN]; exact hu), ← unhide HM]
              exact env_small (unhide HSM) (unhide HGM) (by omega) hu) (by rw [KKe]; omega)
            unfold cval at this
            rw [unhide HLN, unhide HMN, hon] at this
            exact this
          have HTX := hide X5.2
          have HRX := hide (((unhide HSM).rg j (by rw [unhide HGL]; exact hltj)).mono (show 1 ≤ 2000000 by omega))
          have HRO : Hid (RS (Stp.on M (Stp.env M q) j) 2000000) := by
            show RS _ _
            rw [← unhide HM]
            exact (on_RS (unhide HSM) (unhide HGM) hltP (fun u hu => env_small (unhide HSM) (unhide HGM) (t := q) (by omega) hu)).mono (by omega)
          have HJJ : Hid (2000000 ≤ KK) := by show _ ≤ _; rw [KKe]; omega
          have HQV : Hid (Stp.mx gs[j]! (Stp.on M (Stp.env M q) j) = Stp.env M (q + 1) j) := by
            show _ = Stp.mx (M.g j) _
            rw [← unhide HM]
            rfl
          have HS5 := hide T5
          have HUL := hide hws
          rw [ema] at HGO ⊢
          clear T3 T5 X5 E5 MX r rx bA hws hcm hm3 em hlw hln hc8 hGl elsa elsc hon bVW hltP
          go_wp2_with fail
          clear hW5 hgx k0 k1 k2
          refine wp_region_till (fun w' : World => (w'.cell? ⟨bx, 0, none⟩ = some (.slice l.a n l.c) ∧ w'.cell? ⟨bx, 1, none⟩ = some (.slice m.a n m.c) ∧ w'.cell? ⟨bx, 2, none⟩ = some (.bool t.s) ∧ w'.cell? ⟨bx, 3, none⟩ = some (.slice t.a1 t.n1 t.c1) ∧ w'.cell? ⟨bx, 4, none⟩ = some (.slice t.a2 t.n2 t.c2)) ∧ (w'.cell? ⟨gx, 0, none⟩ = some (.bool tx.s) ∧ w'.cell? ⟨gx, 1, none⟩ = some (.slice tx.a1 tx.n1 tx.c1) ∧ w'.cell? ⟨gx, 2, none⟩ = some (.slice tx.a2 tx.n2 tx.c2)) ∧ w'.cell? ⟨GO, q, none⟩ = some (.slice lsa n lsc)) 12 (by kernel_rfl) ?_
          have bd0 : Below W5.heap.size W5 W5.drew := (Below.refl _ _).drew
          have hC0 : (fun w' : World => (w'.cell? ⟨bx, 0, none⟩ = some (.slice l.a n l.c) ∧ w'.cell? ⟨bx, 1, none⟩ = some (.slice m.a n m.c) ∧ w'.cell? ⟨bx, 2, none⟩ = some (.bool t.s) ∧ w'.cell? ⟨bx, 3, none⟩ = some (.slice t.a1 t.n1 t.c1) ∧ w'.cell? ⟨bx, 4, none⟩ = some (.slice t.a2 t.n2 t.c2)) ∧ (w'.cell? ⟨gx, 0, none⟩ = some (.bool tx.s) ∧ w'.cell? ⟨gx, 1, none⟩ = some (.slice tx.a1 tx.n1 tx.c1) ∧ w'.cell? ⟨gx, 2, none⟩ = some (.slice tx.a2 tx.n2 tx.c2)) ∧ w'.cell? ⟨GO, q, none⟩ = some (.slice lsa n lsc)) W5.drew := unhide HCC _ bd0
          refine wpTill_pure (i := 0) (v := ?_) rfl (by kernel_rfl) (by kernel_rfl) (by kernel_rfl) (by kernel_rfl) (fun _ _ _ h => h) (Or.inl ⟨by rfl, ?_⟩) (fun _ => hC0) ?_
          rotate_left
          · intro w hSw; clear hSw; go_simp; (try with_reducible rfl)
          (try simp only [List.getElem_toArray, List.getElem_cons_succ, List.getElem_cons_zero])
          (try simp only [Act.put, List.setIfInBounds_toArray, List.set_cons_zero, List.set_cons_succ])
          refine wpTill_pure (i := 1) (v := ?_) rfl (by kernel_rfl) (by kernel_rfl) (by kernel_rfl) (by kernel_rfl) (fun _ _ _ h => h) (Or.inl ⟨by rfl, ?_⟩) (fun _ => hC0) ?_
          rotate_left
          · intro w hSw; clear hSw; go_simp; (try with_reducible rfl)
          (try simp only [List.getElem_toArray, List.getElem_cons_succ, List.getElem_cons_zero])
          (try simp only [Act.put, List.setIfInBounds_toArray, List.set_cons_zero, List.set_cons_succ])
          refine wpTill_take (i := 2) (v := ?_) rfl (by kernel_rfl) (by kernel_rfl) (by kernel_rfl) (by kernel_rfl) (by kernel_rfl) (by kernel_rfl) (fun _ _ _ h => h) (Or.inl ⟨by rfl, ?_⟩) hC0 ?_
          rotate_left
          · intro w hSw; (try dsimp only at hSw); obtain ⟨⟨u0, u1, u2, u3, u4⟩, ⟨u5, u6, u7⟩, u8⟩ := hSw; go_simp; (try with_reducible rfl)
          (try simp only [List.getElem_toArray, List.getElem_cons_succ, List.getElem_cons_zero])
          (try simp only [Act.put, List.setIfInBounds_toArray, List.set_cons_zero, List.set_cons_succ])
          refine wpTill_take (i := 3) (v := ?_) rfl (by kernel_rfl) (by kernel_rfl) (by kernel_rfl) (by kernel_rfl) (by kernel_rfl) (by kernel_rfl) (fun _ _ _ h => h) (Or.inl ⟨by rfl, ?_⟩) hC0 ?_
          rotate_left
          · intro w hSw; (try dsimp only at hSw); obtain ⟨⟨u0, u1, u2, u3, u4⟩, ⟨u5, u6, u7⟩, u8⟩ := hSw; go_simp; (try with_reducible rfl)
          (try simp only [List.getElem_toArray, List.getElem_cons_succ, List.getElem_cons_zero])
          (try simp only [Act.put, List.setIfInBounds_toArray, List.set_cons_zero, List.set_cons_succ])
          refine wpTill_pure (i := 4) (v := ?_) rfl (by kernel_rfl) (by kernel_rfl) (by kernel_rfl) (by kernel_rfl) (fun _ _ _ h => h) (Or.inl ⟨by rfl, ?_⟩) (fun _ => hC0) ?_
          rotate_left
          · intro w hSw; clear hSw; go_simp; (try with_reducible rfl)
          (try simp only [List.getElem_toArray, List.getElem_cons_succ, List.getElem_cons_zero])
          (try simp only [Act.put, List.setIfInBounds_toArray, List.set_cons_zero, List.set_cons_succ])
          refine wpTill_pure (i := 5) (v := ?_) rfl (by kernel_rfl) (by kernel_rfl) (by kernel_rfl) (by kernel_rfl) (fun _ _ _ h => h) (Or.inl ⟨by rfl, ?_⟩) (fun _ => hC0) ?_
          rotate_left
          · intro w hSw; clear hSw; go_simp; (try with_reducible rfl)
          (try simp only [List.getElem_toArray, List.getElem_cons_succ, List.getElem_cons_zero])
          (try simp only [Act.put, List.setIfInBounds_toArray, List.set_cons_zero, List.set_cons_succ])
          refine wpTill_pure (i := 6) (v := ?_) rfl (by kernel_rfl) (by kernel_rfl) (by kernel_rfl) (by kernel_rfl) (fun _ _ _ h => h) (Or.inl ⟨by rfl, ?_⟩) (fun _ => hC0) ?_
          rotate_left
          · intro w hSw; clear hSw; go_simp; (try with_reducible rfl)
          (try simp only [List.getElem_toArray, List.getElem_cons_succ, List.getElem_cons_zero])
          (try simp only [Act.put, List.setIfInBounds_toArray, List.set_cons_zero, List.set_cons_succ])
          refine wpTill_pure (i := 7) (v := ?_) rfl (by kernel_rfl) (by kernel_rfl) (by kernel_rfl) (by kernel_rfl) (fun _ _ _ h => h) (Or.inl ⟨by rfl, ?_⟩) (fun _ => hC0) ?_
          rotate_left
          · intro w hSw; clear hSw; go_simp; (try with_reducible rfl)
          (try simp only [List.getElem_toArray, List.getElem_cons_succ, List.getElem_cons_zero])
          (try simp only [Act.put, List.setIfInBounds_toArray, List.set_cons_zero, List.set_cons_succ])
          refine wpTill_take (i := 8) (v := ?_) rfl (by kernel_rfl) (by kernel_rfl) (by kernel_rfl) (by kernel_rfl) (by kernel_rfl) (by kernel_rfl) (fun _ _ _ h => h) (Or.inl ⟨by rfl, ?_⟩) hC0 ?_
          rotate_left
          · intro w hSw; (try dsimp only at hSw); obtain ⟨⟨u0, u1, u2, u3, u4⟩, ⟨u5, u6, u7⟩, u8⟩ := hSw; go_simp; (try with_reducible rfl)
          (try simp only [List.getElem_toArray, List.getElem_cons_succ, List.getElem_cons_zero])
          (try simp only [Act.put, List.setIfInBounds_toArray, List.set_cons_zero, List.set_cons_succ])
          refine wpTill_one (k := 9) (by kernel_rfl) rfl (fun K hK => ?_)
          (try simp only [List.getElem_toArray, List.getElem_cons_succ, List.getElem_cons_zero])
          go_simp
          refine (unhide HGO _ bd0).mono ?_
          rintro e xw_1 ⟨xv_1, rfl, hv_1, hb_1⟩
          have cc_1 := below_step bd0 hb_1
          have hC_1 : (fun w' : World => (w'.cell? ⟨bx, 0, none⟩ = some (.slice l.a n l.c) ∧ w'.cell? ⟨bx, 1, none⟩ = some (.slice m.a n m.c) ∧ w'.cell? ⟨bx, 2, none⟩ = some (.bool t.s) ∧ w'.cell? ⟨bx, 3, none⟩ = some (.slice t.a1 t.n1 t.c1) ∧ w'.cell? ⟨bx, 4, none⟩ = some (.slice t.a2 t.n2 t.c2)) ∧ (w'.cell? ⟨gx, 0, none⟩ = some (.bool tx.s) ∧ w'.cell? ⟨gx, 1, none⟩ = some (.slice tx.a1 tx.n1 tx.c1) ∧ w'.cell? ⟨gx, 2, none⟩ = some (.slice tx.a2 tx.n2 tx.c2)) ∧ w'.cell? ⟨GO, q, none⟩ = some (.slice lsa n lsc)) xw_1 := unhide HCC _ cc_1
          refine hK.out _ _ (fun _ => hC_1) ?_
          clear hK K
          (try simp only [Act.put, List.setIfInBounds_toArray, List.set_cons_zero, List.set_cons_succ])
          refine wpTill_one (k := 10) (by kernel_rfl) rfl (fun K hK => ?_)
          (try simp only [List.getElem_toArray, List.getElem_cons_succ, List.getElem_cons_zero])
          go_simp
          refine (greater_any tx.val _ _ _ _ ((unhide HTX).below cc_1) hv_1 _ (unhide HRX) (unhide HRO) (unhide HJJ)).mono ?_
          rintro e xw_2 ⟨xv_2, rfl, hv_2, hb_2⟩
          have cc_2 := below_step cc_1 hb_2
          have hC_2 : (fun w' : World => (w'.cell? ⟨bx, 0, none⟩ = some (.slice l.a n l.c) ∧ w'.cell? ⟨bx, 1, none⟩ = some (.slice m.a n m.c) ∧ w'.cell? ⟨bx, 2, none⟩ = some (.bool t.s) ∧ w'.cell? ⟨bx, 3, none⟩ = some (.slice t.a1 t.n1 t.c1) ∧ w'.cell? ⟨bx, 4, none⟩ = some (.slice t.a2 t.n2 t.c2)) ∧ (w'.cell? ⟨gx, 0, none⟩ = some (.bool tx.s) ∧ w'.cell? ⟨gx, 1, none⟩ = some (.slice tx.a1 tx.n1 tx.c1) ∧ w'.cell? ⟨gx, 2, none⟩ = some (.slice tx.a2 tx.n2 tx.c2)) ∧ w'.cell? ⟨GO, q, none⟩ = some (.slice lsa n lsc)) xw_2 := unhide HCC _ cc_2
          refine hK.out _ _ (fun _ => hC_2) ?_
          clear hK K
          (try simp only [Act.put, List.setIfInBounds_toArray, List.set_cons_zero, List.set_cons_succ])
          refine wpTill_pure (i := 11) (v := ?_) rfl (by kernel_rfl) (by kernel_rfl) (by kernel_rfl) (by kernel_rfl) (fun _ _ _ h => h) (Or.inl ⟨by rfl, ?_⟩) (fun _ => hC_2) ?_
          rotate_left
          · intro w hSw; clear hSw; go_simp; (try with_reducible rfl)
          (try simp only [List.getElem_toArray, List.getElem_cons_succ, List.getElem_cons_zero])
          (try simp only [Act.put, List.setIfInBounds_toArray, List.set_cons_zero, List.set_cons_succ])
          obtain ⟨t5, rfl, r5⟩ := tri_of hv_2
          simp only [Tri.val]
          have S8 := (unhide HS5).keep cc_2
          have ⟨⟨y0, y1, y2⟩, g0, g1, g2⟩ := S8.cells j (by rw [unhide HUL]; exact hltj)
          have FZ := S8.set j (by rw [unhide HUL]; exact hltj) t5 _ r5
          obtain ⟨W9, hW9⟩ : ∃ W, ((xw_2.setCell ⟨G3, j * 3, none⟩ (.bool t5.s)).setCell ⟨G3, j * 3 + 1, none⟩ (.slice t5.a1 t5.n1 t5.c1)).setCell ⟨G3, j * 3 + 2, none⟩ (.slice t5.a2 t5.n2 t5.c2) = W := ⟨_, rfl⟩
          rw [hW9, unhide HQV, fill_set] at FZ
          have HFZ := hide FZ
          clear S8 FZ r5 hv_1 hv_2
          refine wpTill_one (k := 12) (by kernel_rfl) rfl (fun K hK => ?_)
          (try simp only [List.getElem_toArray, List.getElem_cons_succ, List.getElem_cons_zero])
          go_simp
          refine hK.out _ _ (fun h => absurd (h.symm.trans (by kernel_rfl)) Bool.false_ne_true) ?_
          clear hK K
          (try simp only [Act.put, List.setIfInBounds_toArray, List.set_cons_zero, List.set_cons_succ])
          refine wpTill_done (by kernel_rfl) ?_ _
          clear HCC HGO HTX
          clear y0 y1 y2 g0 g1 g2 hW9 hC0 hC_1 hC_2 cc_1 cc_2 bd0 hb_1 hb_2
          go_wp2_with fail
          exact ⟨⟨j + 1, _, by go_num, hltj, by rw [List.length_set]; exact unhide HUL, unhide HFZ⟩, by simp [intOf]; omega⟩
        · obtain rfl : j = n := by omega
          have j1 : ¬ (j : Int) < (j : Int) := by omega
          have hlaw := T3.law (by omega)
          rw [hws] at hlaw
          have hlaw : LawIs wr (.slice (some ⟨G3, 0, none⟩) j j) (row (Stp.env M (q + 1)) j) := hlaw
          have S2 := (unhide HES).keep T3.bl
          have S4 := S2.push (some ⟨G3, 0, none⟩, j, j) hlaw
          have yf := hdl_free S2.hd.out (q + 1)
          have yc := hdl_cell0 S2.hd.out (i := q + 1) (by omega) (by omega)
          obtain ⟨W6, hW6⟩ : ∃ W, wr.setCell ⟨GO, q + 1, none⟩ (.slice (some ⟨G3, 0, none⟩) j j) = W := ⟨_, rfl⟩
          have HF : Hid (EnvS W0 W6 GO T j (q + 1 + 1) (upl ls (q + 1) (some ⟨G3, 0, none⟩, j, j)) M) := by rw [← hW6]; exact S4
          clear T3 hlaw S2 S4 hws HES
          go_wp2_with fail
          exact ⟨⟨q + 1, _, by go_num, hlt, unhide HF⟩, by simp [intOf]; omega⟩
    · obtain rfl : q = times := by omega
      have f1 : ¬ (q : Int) < (q : Int) := by omega
      have hT' : q + 1 = T := by omega
      rw [hT'] at S
      have HR := hide (S.hd.rows (ks := emat M n T) (emat_length _ _ _) (by omega) (fun i hi => by rw [emat_get hi]; exact S.law i hi))
      have HB := hide (below_step (unhide HB0) S.hd.bl)
      clear S
      go_wp2
      go_ret
      exact ⟨_, rfl, unhide HR, unhide HB⟩

/-- What Envelope says. -/
def EnvPost (w : World) (P : List (List Rat)) (gs : List Rat) (c : Rat) (times : Nat) (e : Ending) (w' : World) : Prop :=
  (GoodC P gs ∧ ccode P gs = 0 ∧ ∃ v, e = .returned (.tuple #[v, .nilIface]) ∧ RowsAre w' v (emat (chn P gs c) P.length (times + 1)) ∧ Below w.heap.size w w') ∨
  (ccode P gs ≠ 0 ∧ ∃ k, e = .returned (.tuple #[.slice none 0 0, .iface 81 (.int .i64 k)]) ∧ Below w.heap.size w w')
set_option maxHeartbeats 16000000 in
set_option maxRecDepth 100000 in
set_option linter.unusedSimpArgs false in
theorem Envelope_any (v : Value) (P : List (List Rat)) (gs : List Rat) (c : Rat) (times : Nat) (w : World) (h : ChainIs w v P gs c) (sm : SmC P gs c) (ht : times ≤ 5) : Calls Tryd.prog 10 #[v, .int .i64 (times : Int)] w (EnvPost w P gs c times) := by
  have HSM := hide sm
  obtain ⟨l, m, t, rfl, hS, hT, hR⟩ := h
  have hln := rows_len hS
  have hmn := law_len hT
  have X0 := CBox.new hS hT hR
  have b0 := alloc_below w (.cells #[.slice l.a l.n l.c, .slice m.a m.n m.c, .bool t.s, .slice t.a1 t.n1 t.c1, .slice t.a2 t.n2 t.c2] 37)
  obtain ⟨W0, hW0⟩ : ∃ W, w.alloc (.cells #[.slice l.a l.n l.c, .slice m.a m.n m.c, .bool t.s, .slice t.a1 t.n1 t.c1, .slice t.a2 t.n2 t.c2] 37) = W := ⟨_, rfl⟩
  obtain ⟨bx, hbx⟩ : ∃ b, w.heap.size = b := ⟨_, rfl⟩
  rw [hW0] at X0 b0
  rw [hbx] at X0
  have ⟨c0, c1, c2, c3, c4⟩ := X0.cells _ (Below.refl _ _)
  have HX0 := hide X0
  have HB0 := hide b0
  obtain ⟨n, hn⟩ : ∃ n, P.length = n := ⟨_, rfl⟩
  have HN := hide hn
  rw [hn] at hln
  obtain ⟨k, hk⟩ : ∃ k, gs.length = k := ⟨_, rfl⟩
  have HK := hide hk
  rw [hk] at hmn
  clear hk
  rw [hln] at c0
  rw [hmn] at c1
  unfold cval
  rw [hln, hmn] at hW0 ⊢
  have HLN := hide hln
  have HMN := hide hmn
  clear hS hT hR X0 b0 hn hln hmn
  have HCK := hide (ctimes_any (cval l m t) P gs c times (by omega) W0 (unhide HX0).chain (unhide HSM))
  unfold cval at HCK
  rw [unhide HLN, unhide HMN] at HCK
  clear sm
  go_enter Tryd.func10, Tryd.ntmps10
  go_wp2_with fail
  clear hW0 hbx c0 c1 c2 c3 c4
  refine (unhide HCK).mono ?_
  rintro e w1 ⟨rfl, hb1⟩
  have HB1 := hide (below_step (unhide HB0) hb1)
  have HX1 := hide ((unhide HX0).keep hb1)
  obtain ⟨z, hz⟩ : ∃ z, ccode P gs = z := ⟨_, rfl⟩
  rw [hz]
  have HZ := hide hz
  clear hb1 hz HCK
  by_cases hk0 : z = 0
  · subst hk0
    have e5 : errV 0 = .nilIface := rfl
    rw [e5]
    have HEV := hide (envelope_any (cval l m t) P gs c times w1 (unhide HX1).chain (unhide HSM) (goodC_of (unhide HZ)) ht)
    unfold cval at HEV
    rw [unhide HLN, unhide HMN] at HEV
    have ⟨d0, d1, d2, d3, d4⟩ := (unhide HX1).cells _ (Below.refl _ _)
    rw [unhide HLN] at d0
    rw [unhide HMN] at d1
    go_wp2_with fail
    refine (unhide HEV).mono ?_
    rintro e w2 ⟨v2, rfl, hv2, hb2⟩
    obtain ⟨a2, c2', rfl, _⟩ := id hv2
    have HV2 := hide hv2
    have HB2 := hide (below_step (unhide HB1) hb2)
    clear hb2 hv2 d0 d1 d2 d3 d4 HEV
    go_wp2
    go_ret2
    exact Or.inl ⟨goodC_of (unhide HZ), unhide HZ, _, rfl, unhide HV2, unhide HB2⟩
  · have e5 : errV z = .iface 81 (.int .i64 z) := by unfold errV; rw [if_neg hk0]
    have HK0 := hide hk0
    rw [e5]
    clear hk0 e5
    go_wp2
    go_ret2
    exact Or.inr ⟨by rw [unhide HZ]; exact unhide HK0, z, rfl, unhide HB1⟩

end Go.Proofs.YtgpolilpgkhlkaaDoor
