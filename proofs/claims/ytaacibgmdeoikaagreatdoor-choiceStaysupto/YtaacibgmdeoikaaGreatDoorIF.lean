/- Models: balance, Often. -/
import Derived.Test.YtaacibgmdeoikaaGreatDoorIE
namespace Go.Proofs.YtaacibgmdeoikaaGreatDoor
open Go.RowKit Go.Sort Go.Shelf

/-- The balance, of which s states and k places are written. -/
def bpm (M : Mdp.Md) (d : Nat → Nat) (s k : Nat) (i j : Nat) : Rat := if j < s ∨ (j = s ∧ i < k) then dl i j - M.p j (d j) i else 0
theorem bpm_next (M : Mdp.Md) (d : Nat → Nat) (s k i j : Nat) : upm (bpm M d s k) k s (dl k s - M.p s (d s) k) i j = bpm M d s (k + 1) i j := by
  unfold upm bpm
  by_cases h : i = k ∧ j = s
  · obtain ⟨rfl, rfl⟩ := h
    rw [if_pos ⟨rfl, rfl⟩, if_pos (Or.inr ⟨rfl, by omega⟩)]
  · rw [if_neg h]
    by_cases h2 : j < s ∨ (j = s ∧ i < k)
    · rw [if_pos h2, if_pos (h2.imp id (fun x => ⟨x.1, by omega⟩))]
    · rw [if_neg h2, if_neg (fun x => h2 (x.imp id (fun y => ⟨y.1, by have := y.2; by_cases e : i = k; exact absurd ⟨e, y.1⟩ h; omega⟩)))]
theorem bpm_row (M : Mdp.Md) (d : Nat → Nat) {s n : Nat} (i j : Nat) (hi : i < n) : bpm M d s n i j = bpm M d (s + 1) 0 i j := by
  unfold bpm
  by_cases h : j < s ∨ (j = s ∧ i < n)
  · rw [if_pos h, if_pos (Or.inl (by omega))]
  · rw [if_neg h, if_neg (fun x => h (by rcases x with x | x; by_cases e : j = s; exact Or.inr ⟨e, hi⟩; exact Or.inl (by omega); omega))]
theorem bpm_none (M : Mdp.Md) (d : Nat → Nat) (i j : Nat) : bpm M d 0 0 i j = 0 := by
  unfold bpm
  rw [if_neg (by omega)]
/-- What balance says. -/
def BalPost (w : World) (n : Nat) (M : Mdp.Md) (d : Nat → Nat) (e : Ending) (w' : World) : Prop := ∃ (G : Nat) (bs : Nat → Nat) (us : Nat → List Tri), e = .returned (.slice (some ⟨G, 0, none⟩) n n) ∧ MatAt w w' G n n n bs us (bpm M d n 0)

set_option maxHeartbeats 16000000 in
set_option maxRecDepth 100000 in
set_option linter.unusedSimpArgs false in
theorem balance_any (v va : Value) (K : List (List (Rat × List Rat))) (b : Rat) (d : Nat → Nat) (w : World) (h : ModelIs w v K b) (sm : SmM K b) (gm : GoodM K b) (ha : NRow w va K.length (fun j => ((d j : Nat) : Int))) (hd : Mdp.Plan (mdl K b) d) :
    Calls Tryz.prog 46 #[v, va] w (BalPost w K.length (mdl K b) d) := by
  have KKe : KK = 1099511627776 := rfl
  obtain ⟨l, t, rfl, hS, hR⟩ := h
  have hln := states_len hS
  have X0 := MBox.new hS hR
  have b0 := alloc_below w (.cells #[.slice l.a l.n l.c, .bool t.s, .slice t.a1 t.n1 t.c1, .slice t.a2 t.n2 t.c2] 35)
  obtain ⟨W0, hW0⟩ : ∃ W, w.alloc (.cells #[.slice l.a l.n l.c, .bool t.s, .slice t.a1 t.n1 t.c1, .slice t.a2 t.n2 t.c2] 35) = W := ⟨_, rfl⟩
  obtain ⟨g, hg⟩ : ∃ g, w.heap.size = g := ⟨_, rfl⟩
  rw [hW0] at X0 b0
  rw [hg] at X0
  have ⟨c0, c1, c2, c3⟩ := X0.cells _ (Below.refl _ _)
  have HX0 := hide X0
  have HB0 := hide b0
  have HLN := hide hln
  obtain ⟨n, hn⟩ : ∃ n, K.length = n := ⟨_, rfl⟩
  have HN := hide hn
  rw [hn] at hln
  rw [hln] at c0
  unfold mval
  rw [hln] at hW0 ⊢
  have HSM := hide sm
  have HGM := hide gm
  have HPL := hide hd
  have hn8 := gm.n8
  have hn1 := gm.n1
  rw [hn] at hn8 hn1 ha ⊢
  obtain ⟨M, hM⟩ : ∃ M, mdl K b = M := ⟨_, rfl⟩
  rw [hM]
  have HM := hide hM
  obtain ⟨aa, ca, rfl, x1, x2, x3⟩ := ha
  obtain ⟨bn, on, rfl, hbn, hcn⟩ := x3 (by omega)
  have HCN : Hid (∀ W, Below W0.heap.size W0 W → ∀ j, j < n → W.cell? ⟨bn, on + j, none⟩ = some (.int .i64 ((d j : Nat) : Int))) := fun W hW j hj => by
    rw [(below_step b0 hW).cell (p := ⟨bn, on + j, none⟩) hbn]; exact hcn j hj
  have HSQ := hide (csquare_any n W0 (by omega))
  clear hS hR X0 b0 sm gm x3 hM hn hd hcn
  go_enter Tryz.func46, Tryz.ntmps46
  go_wp2_with fail
  clear hW0 hg
  refine (unhide HSQ).mono ?_
  rintro e w1 ⟨G, bs, us0, rfl, hM0⟩
  have HM0 := hide (hM0.congr (N := bpm M d 0 0) (fun i j _ _ => (bpm_none M d i j).symm))
  clear hM0 HSQ
  go_wp2_with fail
  go_loopw [15] (fun vi wr => ∃ (s : Nat) (us : Nat → List Tri), vi = .int .i64 (s : Int) ∧ s ≤ n ∧ MatAt W0 wr G n n n bs us (bpm M d s 0)) (fun vi _ => n - (intOf vi).toNat)
  case atStart => exact ⟨0, _, rfl, Nat.zero_le _, unhide HM0⟩
  case round =>
    obtain ⟨s, us, rfl, hs, hMt⟩ := hrel
    clear HM0
    by_cases hlt : s < n
    · have e1 : (s : Int) < (n : Int) := by omega
      have e0 : (0 : Int) ≤ (s : Int) := by omega
      have hltK : s < K.length := by have := unhide HN; omega
      have hds : d s < (K[s]!).length := unhide HPL s hltK
      have hbM := hMt.bl
      obtain ⟨bk, ok, m, hla, hbk, k0, hA⟩ := (unhide HX0).2.1.at hltK
      have hmn := acts_len hA
      have ha8 := (unhide HGM).a8 s hltK
      obtain ⟨na, hna⟩ : ∃ x, m.n = x := ⟨_, rfl⟩
      rw [hna] at k0 hmn
      obtain ⟨ba, oa, ta, la, hma, hba, ⟨_, _, _, a3⟩, hAct⟩ := hA.at hds
      rw [← hbM.cell (p := ⟨bk, ok + s, none⟩) hbk] at k0
      rw [← hbM.cell (p := ⟨ba, oa + d s * 4 + 3, none⟩) hba] at a3
      have kd := unhide HCN wr hbM s hlt
      have ⟨c0, _⟩ := (unhide HX0).cells wr hbM
      rw [hln] at c0
      have hnx := (unhide HGM).nx s (d s) hltK hds
      have hln2 := law_len hAct.2
      rw [hnx, unhide HN] at hln2
      have HAC := hide hAct.2
      rw [hln2] at a3
      have HM3 := hide hMt
      have HLT := hide hltK
      have HDS := hide hds
      have HNX := hide hnx
      have pd0 : (0 : Int) ≤ ((d s : Nat) : Int) := by omega
      have pd1 : ((d s : Nat) : Int) < (na : Int) := by omega
      obtain ⟨ds, hdsn⟩ : ∃ x, d s = x := ⟨_, rfl⟩
      rw [hdsn] at a3 kd pd0 pd1
      rw [hma] at k0
      rw [hla] at c0 ⊢
      clear hMt hbM hmn hna hA hAct hnx hltK hds hdsn hla hma hln2
      go_wp2_with fail
      clear a3 k0 c0 kd pd0 pd1
      go_loopw [30] (fun vj wv => ∃ (k : Nat) (us' : Nat → List Tri), vj = .int .i64 (k : Int) ∧ k ≤ n ∧ MatAt W0 wv G n n n bs us' (bpm M d s k)) (fun vj _ => n - (intOf vj).toNat)
      case atStart => exact ⟨0, _, rfl, Nat.zero_le _, unhide HM3⟩
      case round =>
        obtain ⟨k, us', rfl, hk, hMt⟩ := hrel
        clear HM3
        by_cases hltk : k < n
        · have g1 : (k : Int) < (n : Int) := by omega
          have g0 : (0 : Int) ≤ (k : Int) := by omega
          have hbM := hMt.bl
          have hkq : k < (((K[s]!)[d s]!).2).length := by rw [unhide HNX, unhide HN]; exact hltk
          obtain ⟨al, cl', hle, l1, l2, l3⟩ := unhide HAC
          obtain ⟨bl, ol, rfl, hbl, hcl⟩ := l3 (by omega)
          have ela : la.a = some ⟨bl, ol, none⟩ := by injection hle
          obtain ⟨xs_, xp1, xp2, xn1, xd1, xn2, xd2, xk0, xk1, xk2, xr⟩ := hcl k hkq
          obtain ⟨tx, rfl, rfl, rfl, rfl, rfl, rfl, rfl⟩ : ∃ t : Tri, xs_ = t.s ∧ xp1 = t.a1 ∧ xp2 = t.a2 ∧ xn1 = t.n1 ∧ xd1 = t.c1 ∧ xn2 = t.n2 ∧ xd2 = t.c2 := ⟨⟨xs_, xp1, xp2, xn1, xd1, xn2, xd2⟩, rfl, rfl, rfl, rfl, rfl, rfl, rfl⟩
          rw [← hbM.cell (p := ⟨bl, ol + k * 3, none⟩) hbl] at xk0
          rw [← hbM.cell (p := ⟨bl, ol + k * 3 + 1, none⟩) hbl] at xk1
          rw [← hbM.cell (p := ⟨bl, ol + k * 3 + 2, none⟩) hbl] at xk2
          have rsh := (unhide HSM).rp s (d s) k (unhide HLT) (unhide HDS) hkq
          have HVP : Hid (dl k s - (((K[s]!)[d s]!).2)[k]! = dl k s - M.p s (d s) k) := by
            show _ = _
            rw [← unhide HM]; rfl
          obtain ⟨sh, hsh⟩ : ∃ q, (((K[s]!)[d s]!).2)[k]! = q := ⟨_, rfl⟩
          rw [hsh] at xr rsh HVP
          have bA := alloc_below wr (.cells #[.bool tx.s, .slice tx.a1 tx.n1 tx.c1, .slice tx.a2 tx.n2 tx.c2] 33)
          have X5 := BoxIs.new (xr.below hbM)
          have M5 := hMt.keep bA
          obtain ⟨W5, hW5⟩ : ∃ W, wr.alloc (.cells #[.bool tx.s, .slice tx.a1 tx.n1 tx.c1, .slice tx.a2 tx.n2 tx.c2] 33) = W := ⟨_, rfl⟩
          obtain ⟨gx, hgx⟩ : ∃ g, wr.heap.size = g := ⟨_, rfl⟩
          rw [hW5] at X5 M5
          rw [hgx] at X5
          obtain ⟨gs, hgs⟩ : ∃ x, bs k = x := ⟨_, rfl⟩
          have HGS := hide hgs
          have HCC : Hid (∀ W, Below W5.heap.size W5 W → (fun w' : World => w'.cell? ⟨G, k, none⟩ = some (.slice (some ⟨gs, 0, none⟩) n n) ∧ w'.cell? ⟨gx, 0, none⟩ = some (.bool tx.s) ∧ w'.cell? ⟨gx, 1, none⟩ = some (.slice tx.a1 tx.n1 tx.c1) ∧ w'.cell? ⟨gx, 2, none⟩ = some (.slice tx.a2 tx.n2 tx.c2)) W) := fun W hW => by
            have hh := (M5.keep hW).head hltk hltk
            rw [hgs] at hh
            exact ⟨hh, X5.cells W hW⟩
          have HSX := hide X5.2
          have HM5 := hide M5
          have HRS := hide (rsh.mono (show 1 ≤ 5 by omega))
          have HRD := hide ((dl_RS k s).mono (show 1 ≤ 5 by omega))
          have ⟨q0, q1, q2⟩ := X5.cells _ (Below.refl _ _)
          rw [ela]
          clear hMt hbM hle l3 hcl xr rsh hsh bA X5 M5 hgs ela hkq
          go_wp2_with fail
          clear hW5 hgx xk0 xk1 xk2 q0 q1 q2
          refine wp_region_till (fun w' : World => w'.cell? ⟨G, k, none⟩ = some (.slice (some ⟨gs, 0, none⟩) n n) ∧ w'.cell? ⟨gx, 0, none⟩ = some (.bool tx.s) ∧ w'.cell? ⟨gx, 1, none⟩ = some (.slice tx.a1 tx.n1 tx.c1) ∧ w'.cell? ⟨gx, 2, none⟩ = some (.slice tx.a2 tx.n2 tx.c2)) 11 (by kernel_rfl) ?_
          have bd0 : Below W5.heap.size W5 W5.drew := (Below.refl _ _).drew
          have hC0 : (fun w' : World => w'.cell? ⟨G, k, none⟩ = some (.slice (some ⟨gs, 0, none⟩) n n) ∧ w'.cell? ⟨gx, 0, none⟩ = some (.bool tx.s) ∧ w'.cell? ⟨gx, 1, none⟩ = some (.slice tx.a1 tx.n1 tx.c1) ∧ w'.cell? ⟨gx, 2, none⟩ = some (.slice tx.a2 tx.n2 tx.c2)) W5.drew := unhide HCC _ bd0
          refine wpTill_pure (i := 0) (v := ?_) rfl (by kernel_rfl) (by kernel_rfl) (by kernel_rfl) (by kernel_rfl) (fun _ _ _ h => h) (Or.inl ⟨by rfl, ?_⟩) (fun _ => hC0) ?_
          rotate_left
          · intro w hSw; clear hSw; go_simp; (try with_reducible rfl)
          (try simp only [List.getElem_toArray, List.getElem_cons_succ, List.getElem_cons_zero])
          (try simp only [Act.put, List.setIfInBounds_toArray, List.set_cons_zero, List.set_cons_succ])
          refine wpTill_pure (i := 1) (v := ?_) rfl (by kernel_rfl) (by kernel_rfl) (by kernel_rfl) (by kernel_rfl) (fun _ _ _ h => h) (Or.inl ⟨by rfl, ?_⟩) (fun _ => hC0) ?_
          rotate_left
          · intro w hSw; clear hSw; go_simp; (try with_reducible rfl)
          (try simp only [List.getElem_toArray, List.getElem_cons_succ, List.getElem_cons_zero])
          (try simp only [Act.put, List.setIfInBounds_toArray, List.set_cons_zero, List.set_cons_succ])
          refine wpTill_pure (i := 2) (v := ?_) rfl (by kernel_rfl) (by kernel_rfl) (by kernel_rfl) (by kernel_rfl) (fun _ _ _ h => h) (Or.inl ⟨by rfl, ?_⟩) (fun _ => hC0) ?_
          rotate_left
          · intro w hSw; clear hSw; go_simp; (try with_reducible rfl)
          (try simp only [List.getElem_toArray, List.getElem_cons_succ, List.getElem_cons_zero])
          (try simp only [Act.put, List.setIfInBounds_toArray, List.set_cons_zero, List.set_cons_succ])
          refine wpTill_take (i := 3) (v := ?_) rfl (by kernel_rfl) (by kernel_rfl) (by kernel_rfl) (by kernel_rfl) (by kernel_rfl) (by kernel_rfl) (fun _ _ _ h => h) (Or.inl ⟨by rfl, ?_⟩) hC0 ?_
          rotate_left
          · intro w hSw; (try dsimp only at hSw); obtain ⟨z0, z1, z2, z3⟩ := hSw; go_simp; (try with_reducible rfl)
          (try simp only [List.getElem_toArray, List.getElem_cons_succ, List.getElem_cons_zero])
          (try simp only [Act.put, List.setIfInBounds_toArray, List.set_cons_zero, List.set_cons_succ])
          refine wpTill_pure (i := 4) (v := ?_) rfl (by kernel_rfl) (by kernel_rfl) (by kernel_rfl) (by kernel_rfl) (fun _ _ _ h => h) (Or.inl ⟨by rfl, ?_⟩) (fun _ => hC0) ?_
          rotate_left
          · intro w hSw; clear hSw; go_simp; (try with_reducible rfl)
          (try simp only [List.getElem_toArray, List.getElem_cons_succ, List.getElem_cons_zero])
          (try simp only [Act.put, List.setIfInBounds_toArray, List.set_cons_zero, List.set_cons_succ])
          refine wpTill_pure (i := 5) (v := ?_) rfl (by kernel_rfl) (by kernel_rfl) (by kernel_rfl) (by kernel_rfl) (fun _ _ _ h => h) (Or.inl ⟨by rfl, ?_⟩) (fun _ => hC0) ?_
          rotate_left
          · intro w hSw; clear hSw; go_simp; (try with_reducible rfl)
          (try simp only [List.getElem_toArray, List.getElem_cons_succ, List.getElem_cons_zero])
          (try simp only [Act.put, List.setIfInBounds_toArray, List.set_cons_zero, List.set_cons_succ])
          refine wpTill_pure (i := 6) (v := ?_) rfl (by kernel_rfl) (by kernel_rfl) (by kernel_rfl) (by kernel_rfl) (fun _ _ _ h => h) (Or.inl ⟨by rfl, ?_⟩) (fun _ => hC0) ?_
          rotate_left
          · intro w hSw; clear hSw; go_simp; (try with_reducible rfl)
          (try simp only [List.getElem_toArray, List.getElem_cons_succ, List.getElem_cons_zero])
          (try simp only [Act.put, List.setIfInBounds_toArray, List.set_cons_zero, List.set_cons_succ])
          refine wpTill_take (i := 8) (v := ?_) rfl (by kernel_rfl) (by kernel_rfl) (by kernel_rfl) (by kernel_rfl) (by kernel_rfl) (by kernel_rfl) (fun _ _ _ h => h) (Or.inl ⟨by rfl, ?_⟩) hC0 ?_
          rotate_left
          · intro w hSw; (try dsimp only at hSw); obtain ⟨z0, z1, z2, z3⟩ := hSw; go_simp; (try with_reducible rfl)
          (try simp only [List.getElem_toArray, List.getElem_cons_succ, List.getElem_cons_zero])
          (try simp only [Act.put, List.setIfInBounds_toArray, List.set_cons_zero, List.set_cons_succ])
          refine wpTill_one (k := 7) (by kernel_rfl) rfl (fun K hK => ?_)
          (try simp only [List.getElem_toArray, List.getElem_cons_succ, List.getElem_cons_zero])
          go_simp
          refine (same_any k s _ (by omega) (by omega)).mono ?_
          rintro e xw_1 ⟨xv_1, rfl, hv_1, hb_1⟩
          have cc_1 := below_step bd0 hb_1
          have hC_1 : (fun w' : World => w'.cell? ⟨G, k, none⟩ = some (.slice (some ⟨gs, 0, none⟩) n n) ∧ w'.cell? ⟨gx, 0, none⟩ = some (.bool tx.s) ∧ w'.cell? ⟨gx, 1, none⟩ = some (.slice tx.a1 tx.n1 tx.c1) ∧ w'.cell? ⟨gx, 2, none⟩ = some (.slice tx.a2 tx.n2 tx.c2)) xw_1 := unhide HCC _ cc_1
          refine hK.out _ _ (fun _ => hC_1) ?_
          clear hK K
          (try simp only [Act.put, List.setIfInBounds_toArray, List.set_cons_zero, List.set_cons_succ])
          refine wpTill_one (k := 9) (by kernel_rfl) rfl (fun K hK => ?_)
          (try simp only [List.getElem_toArray, List.getElem_cons_succ, List.getElem_cons_zero])
          go_simp
          refine (subR_any _ tx.val _ _ _ hv_1 ((unhide HSX).below cc_1) 5 (unhide HRD) (unhide HRS) (by rw [KKe]; omega)).mono ?_
          rintro e xw_2 ⟨xv_2, rfl, hv_2, hb_2⟩
          have cc_2 := below_step cc_1 hb_2
          have hC_2 : (fun w' : World => w'.cell? ⟨G, k, none⟩ = some (.slice (some ⟨gs, 0, none⟩) n n) ∧ w'.cell? ⟨gx, 0, none⟩ = some (.bool tx.s) ∧ w'.cell? ⟨gx, 1, none⟩ = some (.slice tx.a1 tx.n1 tx.c1) ∧ w'.cell? ⟨gx, 2, none⟩ = some (.slice tx.a2 tx.n2 tx.c2)) xw_2 := unhide HCC _ cc_2
          refine hK.out _ _ (fun _ => hC_2) ?_
          clear hK K
          (try simp only [Act.put, List.setIfInBounds_toArray, List.set_cons_zero, List.set_cons_succ])
          refine wpTill_pure (i := 10) (v := ?_) rfl (by kernel_rfl) (by kernel_rfl) (by kernel_rfl) (by kernel_rfl) (fun _ _ _ h => h) (Or.inl ⟨by rfl, ?_⟩) (fun _ => hC_2) ?_
          rotate_left
          · intro w hSw; clear hSw; go_simp; (try with_reducible rfl)
          (try simp only [List.getElem_toArray, List.getElem_cons_succ, List.getElem_cons_zero])
          (try simp only [Act.put, List.setIfInBounds_toArray, List.set_cons_zero, List.set_cons_succ])
          obtain ⟨t5, rfl, r5⟩ := tri_of hv_2
          simp only [Tri.val]
          have S8 := (unhide HM5).keep cc_2
          have ⟨⟨y0, y1, y2⟩, f0, f1, f2⟩ := S8.cells (i := k) (j := s) hltk hlt
          have FZ := S8.set (i := k) (j := s) hltk hlt t5 _ r5
          rw [unhide HGS] at y0 y1 y2 f0 f1 f2 FZ
          obtain ⟨W9, hW9⟩ : ∃ W, ((xw_2.setCell ⟨gs, s * 3, none⟩ (.bool t5.s)).setCell ⟨gs, s * 3 + 1, none⟩ (.slice t5.a1 t5.n1 t5.c1)).setCell ⟨gs, s * 3 + 2, none⟩ (.slice t5.a2 t5.n2 t5.c2) = W := ⟨_, rfl⟩
          rw [hW9, unhide HVP] at FZ
          have FZ2 := FZ.congr (N := bpm M d s (k + 1)) (fun i j _ _ => bpm_next M d s k i j)
          have HFZ := hide FZ2
          clear S8 FZ FZ2 r5 hv_1 hv_2
          refine wpTill_one (k := 11) (by kernel_rfl) rfl (fun K hK => ?_)
          (try simp only [List.getElem_toArray, List.getElem_cons_succ, List.getElem_cons_zero])
          go_simp
          refine hK.out _ _ (fun h => absurd (h.symm.trans (by kernel_rfl)) Bool.false_ne_true) ?_
          clear hK K
          (try simp only [Act.put, List.setIfInBounds_toArray, List.set_cons_zero, List.set_cons_succ])
          refine wpTill_done (by kernel_rfl) ?_ _
          clear HCC HSX HM5
          clear y0 y1 y2 f0 f1 f2 hW9 hC0 hC_1 hC_2 cc_1 cc_2 bd0 hb_1 hb_2
          go_wp2_with fail
          exact ⟨⟨k + 1, _, by go_num, hltk, unhide HFZ⟩, by simp [intOf]; omega⟩
        · obtain rfl : k = n := by omega
          have g1 : ¬ (k : Int) < (k : Int) := by omega
          have HM6 := hide (hMt.congr (N := bpm M d (s + 1) 0) (fun i j hi _ => bpm_row M d i j hi))
          clear hMt
          go_wp2_with fail
          exact ⟨⟨s + 1, _, by go_num, hlt, unhide HM6⟩, by simp [intOf]; omega⟩
    · obtain rfl : s = n := by omega
      have e1 : ¬ (s : Int) < (s : Int) := by omega
      have HF := hide (hMt.rebase (unhide HB0))
      clear hMt
      go_wp2
      go_ret
      exact ⟨G, bs, us, rfl, unhide HF⟩

/-- The equations of the long run, of whose last row s places are written. -/
def opm (M : Mdp.Md) (d : Nat → Nat) (n L s : Nat) (i j : Nat) : Rat := if i = L ∧ j < s then ((1 : Int) : Rat) else bpm M d n 0 i j
theorem opm_none (M : Mdp.Md) (d : Nat → Nat) (n L i j : Nat) : opm M d n L 0 i j = bpm M d n 0 i j := by
  unfold opm
  rw [if_neg (by omega)]
theorem opm_next (M : Mdp.Md) (d : Nat → Nat) (n L s i j : Nat) : upm (opm M d n L s) L s ((1 : Int) : Rat) i j = opm M d n L (s + 1) i j := by
  unfold upm opm
  by_cases h : i = L ∧ j = s
  · rw [if_pos h, if_pos ⟨h.1, by omega⟩]
  · rw [if_neg h]
    by_cases h2 : i = L ∧ j < s
    · rw [if_pos h2, if_pos ⟨h2.1, by omega⟩]
    · rw [if_neg h2, if_neg (fun x => h2 ⟨x.1, by have := x.2; by_cases e : j = s; exact absurd ⟨x.1, e⟩ h; omega⟩)]
/-- Noughts, and 1 at the end. -/
def onl (L i : Nat) : Rat := if i = L then ((1 : Int) : Rat) else 0
theorem onl_row (L n : Nat) : (List.replicate n (0 : Rat)).set L ((1 : Int) : Rat) = row (onl L) n := by
  refine row_eq (by simp) (fun i hi => ?_)
  unfold onl
  by_cases h : i = L
  · subst h
    rw [if_pos rfl]
    simp [hi]
  · rw [if_neg h]
    simp [hi, show ¬ L = i from fun x => h x.symm]
/-- What Often says. -/
def OftenPost (w : World) (K : List (List (Rat × List Rat))) (b : Rat) (na : Nat) (f : Nat → Int) (e : Ending) (w' : World) : Prop :=
  (GoodM K b ∧ na = K.length ∧ InA K f na ∧ ((∃ (v : Value) (x : Nat → Rat), e = .returned (.tuple #[v, .nilIface]) ∧ LawIs w' v (row x K.length) ∧ Lin.Sat K.length (Mdp.oeq (mdl K b) (fun j => (f j).toNat)) x 1 ∧ (∀ i, RS (x i) (XBn K.length)) ∧ Below w.heap.size w w') ∨ (∃ k : Int, e = .returned (.tuple #[.slice none 0 0, .iface 76 (.int .i64 k)]) ∧ Below w.heap.size w w'))) ∨
  (¬ (mcode K b = 0 ∧ na = K.length ∧ InA K f na) ∧ ∃ k : Int, e = .returned (.tuple #[.slice none 0 0, .iface 76 (.int .i64 k)]) ∧ Below w.heap.size w w')


end Go.Proofs.YtaacibgmdeoikaaGreatDoor
/- Models: Often. -/
namespace Go.Proofs.YtaacibgmdeoikaaGreatDoor
open Go.RowKit Go.Sort Go.Shelf

set_option maxHeartbeats 16000000 in
set_option maxRecDepth 100000 in
set_option linter.unusedSimpArgs false in
theorem Often_any (v va : Value) (K : List (List (Rat × List Rat))) (b : Rat) (na : Nat) (f : Nat → Int) (w : World) (h : ModelIs w v K b) (sm : SmM K b) (ha : NRow w va na f) (hna : na ≤ 1000) (hf : ∀ j, j < na → I64 (f j)) :
    Calls Tryz.prog 20 #[v, va] w (OftenPost w K b na f) := by
  have KKe : KK = 1099511627776 := rfl
  obtain ⟨l, t, rfl, hS, hR⟩ := h
  have hln := states_len hS
  have X0 := MBox.new hS hR
  have b0 := alloc_below w (.cells #[.slice l.a l.n l.c, .bool t.s, .slice t.a1 t.n1 t.c1, .slice t.a2 t.n2 t.c2] 35)
  obtain ⟨W0, hW0⟩ : ∃ W, w.alloc (.cells #[.slice l.a l.n l.c, .bool t.s, .slice t.a1 t.n1 t.c1, .slice t.a2 t.n2 t.c2] 35) = W := ⟨_, rfl⟩
  obtain ⟨g, hg⟩ : ∃ g, w.heap.size = g := ⟨_, rfl⟩
  rw [hW0] at X0 b0
  rw [hg] at X0
  have ⟨c0, c1, c2, c3⟩ := X0.cells _ (Below.refl _ _)
  have HX0 := hide X0
  have HB0 := hide b0
  have HLN := hide hln
  obtain ⟨n, hn⟩ : ∃ n, K.length = n := ⟨_, rfl⟩
  have HN := hide hn
  rw [hn] at hln
  rw [hln] at c0
  unfold mval
  rw [hln] at hW0 ⊢
  have HCA := hide (checkActs_any (mval l t) va K b na f W0 (unhide HX0).model sm (ha.below b0) hna hf)
  have HVV : Hid (∀ W, Below W0.heap.size W0 W → GoodM K b → na = K.length → InA K f na → Calls Tryz.prog 46 #[mval l t, va] W (BalPost W K.length (mdl K b) (fun j => (f j).toNat))) := fun W hW g1 g2 g3 =>
    balance_any (mval l t) va K b _ W ((unhide HX0).keep hW).model sm g1 (((by rw [← g2]; exact ha.below b0) : NRow W0 va K.length f).below hW |>.congr (fun j hj => (Int.toNat_of_nonneg (g3 j (by rw [g2]; exact hj)).1).symm)) (plan_of (by rw [← g2]; exact g3))
  unfold mval at HCA HVV
  rw [hln] at HCA HVV
  have HSM := hide sm
  obtain ⟨aa, ca, rfl, x1, x2, x3⟩ := ha
  clear hS hR X0 b0 sm x3 hf hn
  go_enter Tryz.func20, Tryz.ntmps20
  go_wp2_with fail
  refine (unhide HCA).mono ?_
  rintro e w1 ⟨(⟨g1, g2, g3, rfl⟩ | ⟨gn, k, rfl⟩), hb1⟩
  rotate_left
  · have HN2 := hide gn
    have HB1 := hide (below_step (unhide HB0) hb1)
    clear gn hb1 hW0 hg c0 c1 c2 c3 HCA
    go_wp2
    go_ret2
    exact Or.inr ⟨unhide HN2, k, rfl, unhide HB1⟩
  have hgm := good_of g1
  have HGM := hide hgm
  have HG2 := hide g2
  have HG3 := hide g3
  have HB1 := hide (below_step (unhide HB0) hb1)
  have HBA0 : Hid (∀ W, Below w1.heap.size w1 W → _) := fun W hW => unhide HVV W (below_step hb1 hW) hgm g2 g3
  have hn8 := hgm.n8
  have hn1 := hgm.n1
  rw [unhide HN] at hn8 hn1 g2
  have HPL := hide (plan_of (b := b) (f := f) (by rw [← unhide HG2]; exact unhide HG3))
  have HCW : Hid (∀ W, Below w1.heap.size w1 W → (fun w' : World => w'.cell? ⟨g, 0, none⟩ = some (.slice l.a n l.c) ∧ w'.cell? ⟨g, 1, none⟩ = some (.bool t.s) ∧ w'.cell? ⟨g, 2, none⟩ = some (.slice t.a1 t.n1 t.c1) ∧ w'.cell? ⟨g, 3, none⟩ = some (.slice t.a2 t.n2 t.c2)) W) := fun W hW => by
    have := (unhide HX0).cells W (below_step hb1 hW)
    rw [hln] at this
    exact this
  rw [unhide HN] at HBA0
  obtain ⟨M, hM⟩ : ∃ M, mdl K b = M := ⟨_, rfl⟩
  rw [hM] at HBA0 HPL
  have HM := hide hM
  have HMN : Hid (M.n = n) := by show M.n = n; rw [← hM]; exact unhide HN
  obtain ⟨d, hd⟩ : ∃ d : Nat → Nat, (fun j => (f j).toNat) = d := ⟨_, rfl⟩
  rw [hd] at HBA0 HPL
  have HD := hide hd
  have HBA := HBA0
  obtain ⟨L, hL⟩ : ∃ L, L + 1 = n := ⟨n - 1, by omega⟩
  have HSV : Hid (∀ W G bs us G2 gs, MatAt w1 W G n n n bs us (opm M d n L n) → SumsAt w1 W G2 gs (row (onl L) n) → gs.length = n → Calls Tryz.prog 47 #[.slice (some ⟨G, 0, none⟩) n n, .slice (some ⟨G2, 0, none⟩) n n] W (SolvePost W n (Mdp.oeq M d) (XBn n))) := fun W G bs us G2 gs hMt hSm hgl => by
    have hlaw := hSm.law (by omega)
    rw [hgl] at hlaw
    have one : ((1 : Int) : Rat) = 1 := rfl
    have hae : ∀ i j, i < n → j < n + 1 → aug (mrows n n (opm M d n L n)) (row (onl L) n) n i j = Mdp.oeq M d i j := fun i j hi hj => by
      unfold aug Mdp.oeq
      rw [unhide HMN]
      by_cases e : j < n
      · rw [if_pos e, if_pos e, mrows_get hi, row_get e]
        unfold opm
        by_cases e2 : i = L
        · rw [if_pos ⟨e2, e⟩, if_pos (by omega), one]
        · rw [if_neg (fun x => e2 x.1), if_neg (by omega)]
          unfold bpm dl
          rw [if_pos (Or.inl e)]
      · rw [if_neg e, if_neg e, row_get hi]
        unfold onl
        by_cases e2 : i = L
        · rw [if_pos e2, if_pos (by omega), one]
        · rw [if_neg e2, if_neg (by omega)]
    have hvr : ∀ i j, i < n → j < n + 1 → RS (Mdp.oeq M d i j) 5 := fun i j hi hj => by
      unfold Mdp.oeq
      rw [unhide HMN]
      by_cases e2 : i + 1 = n
      · rw [if_pos e2]; exact one_RS'.mono (by omega)
      · rw [if_neg e2]
        by_cases e : j < n
        · have hjK : j < K.length := by rw [unhide HN]; exact e
          have hdj : d j < (K[j]!).length := by have := unhide HPL j (by rw [unhide HMN]; exact e); rw [← hM] at this; exact this
          rw [if_pos e, ← hM]
          have r1 := (unhide HSM).rp j (d j) i hjK hdj (by rw [hgm.nx j (d j) hjK hdj, unhide HN]; exact hi)
          exact RS.mono (RS.sub' (dl_RS i j) r1) (by omega)
        · rw [if_neg e]; exact RS.zero.mono (by omega)
    refine (solve_any _ _ (mrows n n (opm M d n L n)) (row (onl L) n) W n 5 (hMt.rows (by omega) (by omega)) hlaw (mrows_length _ _ _) (fun j hj => by rw [mrows_get hj, row_length]) (row_length _ _) (by omega) (fun i j hi hj => by rw [hae i j hi hj]; exact hvr i j hi hj) (xbn_small n hn8)).mono ?_
    rintro e w' (⟨v, x, rfl, hv, hx, hr, hb⟩ | ⟨⟨y, hy, i, hi, hy1⟩, rfl, hb⟩)
    · exact Or.inl ⟨v, x, rfl, hv, solved_congr hae hx, hr, hb⟩
    · exact Or.inr ⟨⟨y, (sat_congr hae y 0).1 hy, i, hi, hy1⟩, rfl, hb⟩
  have hLw : IntKind.i64.wrap ((n : Int) - 1) = (L : Int) := by rw [IntKind.wrap_i64]; omega
  have HLN2 := hide hL
  have hL1 : (L : Int) < (n : Int) := by omega
  have hL0 : (0 : Int) ≤ (L : Int) := by omega
  have hLn : L < n := by omega
  obtain rfl := g2.symm
  clear hgm g1 g3 hb1 hW0 hg c0 c1 c2 c3 HCA HVV hM hd hL HBA0
  go_wp2_with fail
  refine wp_region_hold (fun w' : World => w'.cell? ⟨g, 0, none⟩ = some (.slice l.a n l.c) ∧ w'.cell? ⟨g, 1, none⟩ = some (.bool t.s) ∧ w'.cell? ⟨g, 2, none⟩ = some (.slice t.a1 t.n1 t.c1) ∧ w'.cell? ⟨g, 3, none⟩ = some (.slice t.a2 t.n2 t.c2)) (by kernel_rfl) ?_
  have bd0 : Below w1.heap.size w1 w1.drew := (Below.refl _ _).drew
  obtain ⟨Wx, hWx⟩ : ∃ W, w1.drew = W := ⟨_, rfl⟩
  rw [hWx] at bd0 ⊢
  have hC0 : (fun w' : World => w'.cell? ⟨g, 0, none⟩ = some (.slice l.a n l.c) ∧ w'.cell? ⟨g, 1, none⟩ = some (.bool t.s) ∧ w'.cell? ⟨g, 2, none⟩ = some (.slice t.a1 t.n1 t.c1) ∧ w'.cell? ⟨g, 3, none⟩ = some (.slice t.a2 t.n2 t.c2)) Wx := unhide HCW _ bd0
  refine wpHold_take (i := 0) (v := ?_) rfl (by kernel_rfl) (by kernel_rfl) (by kernel_rfl) (fun _ _ _ h => h) (Or.inl ⟨by rfl, ?_⟩) hC0 ?_
  rotate_left
  · intro w hSw; (try dsimp only at hSw); obtain ⟨z0, z1, z2, z3⟩ := hSw; go_simp; (try with_reducible rfl)
  (try simp only [List.getElem_toArray, List.getElem_cons_succ, List.getElem_cons_zero])
  (try simp only [Act.put, List.setIfInBounds_toArray, List.set_cons_zero, List.set_cons_succ])
  refine wpHold_take (i := 1) (v := ?_) rfl (by kernel_rfl) (by kernel_rfl) (by kernel_rfl) (fun _ _ _ h => h) (Or.inl ⟨by rfl, ?_⟩) hC0 ?_
  rotate_left
  · intro w hSw; clear hSw; go_simp; (try with_reducible rfl)
  (try simp only [List.getElem_toArray, List.getElem_cons_succ, List.getElem_cons_zero])
  (try simp only [Act.put, List.setIfInBounds_toArray, List.set_cons_zero, List.set_cons_succ])
  refine wpHold_take (i := 3) (v := ?_) rfl (by kernel_rfl) (by kernel_rfl) (by kernel_rfl) (fun _ _ _ h => h) (Or.inl ⟨by rfl, ?_⟩) hC0 ?_
  rotate_left
  · intro w hSw; clear hSw; go_simp; (try with_reducible rfl)
  (try simp only [List.getElem_toArray, List.getElem_cons_succ, List.getElem_cons_zero])
  (try simp only [Act.put, List.setIfInBounds_toArray, List.set_cons_zero, List.set_cons_succ])
  refine wpHold_take (i := 4) (v := ?_) rfl (by kernel_rfl) (by kernel_rfl) (by kernel_rfl) (fun _ _ _ h => h) (Or.inl ⟨by rfl, ?_⟩) hC0 ?_
  rotate_left
  · intro w hSw; clear hSw; go_simp; (try with_reducible rfl)
  (try simp only [List.getElem_toArray, List.getElem_cons_succ, List.getElem_cons_zero])
  (try simp only [Act.put, List.setIfInBounds_toArray, List.set_cons_zero, List.set_cons_succ])
  refine wpHold_listed (n := 4) (L' := (fun x : Bool × Bool × Bool => #[true, true, x.1, true, true, x.2.1, x.2.2, false]) (false, false, false)) (by kernel_rfl) (by kernel_rfl) ?_
  refine wpHold_name (fun a0 ha0 => ?_)
  refine two_any (fun x : Bool × Bool × Bool => #[true, true, x.1, true, true, x.2.1, x.2.2, false]) 1 2 5 6 (fun x y z na W => ∃ s1 s2 s3, na = ((a0.put (some 21) s1).put (some 24) s2).put (some 7) s3 ∧ (z = true → x = true ∧ s3 = s1) ∧ TwoK (fun W s1 => ∃ G bs us, s1 = .slice (some ⟨G, 0, none⟩) n n ∧ MatAt w1 W G n n n bs us (bpm M d n 0)) (fun W s2 => ∃ G, s2 = .slice (some ⟨G, 0, none⟩) n n ∧ SumsAt w1 W G (List.replicate n zTri) (List.replicate n 0)) (fun W s1 s2 => ∃ G bs us G2, s1 = .slice (some ⟨G, 0, none⟩) n n ∧ s2 = .slice (some ⟨G2, 0, none⟩) n n ∧ MatAt w1 W G n n n bs us (bpm M d n 0) ∧ SumsAt w1 W G2 (List.replicate n zTri) (List.replicate n 0) ∧ ∀ i, i < n → bs i ≠ G2) Wx x y W s1 s2) ?_ ?_ ?_ ?_ ?_ ?_ _ _ ⟨undef, undef, undef, by subst ha0; rfl, fun h => (by cases h), Below.refl _ _, fun h => (by cases h), fun h => (by cases h), fun h => (by cases h)⟩
  · clear ha0
    rintro ⟨x, y, z⟩ hs
    match x, y, z, hs with
    | false, false, false, _ => (show (_ : Bool) = _; kernel_rfl)
    | false, false, true, _ => (show (_ : Bool) = _; kernel_rfl)
    | false, true, false, _ => (show (_ : Bool) = _; kernel_rfl)
    | false, true, true, _ => (show (_ : Bool) = _; kernel_rfl)
    | true, false, false, _ => (show (_ : Bool) = _; kernel_rfl)
    | true, false, true, _ => (show (_ : Bool) = _; kernel_rfl)
    | true, true, false, _ => (show (_ : Bool) = _; kernel_rfl)
  · clear ha0
    rintro ⟨x, y, z⟩ hs
    match x, y, z, hs with
    | false, false, false, _ => (show (_ : Bool) = _; kernel_rfl)
    | false, false, true, _ => (show (_ : Bool) = _; kernel_rfl)
    | false, true, false, _ => (show (_ : Bool) = _; kernel_rfl)
    | false, true, true, _ => (show (_ : Bool) = _; kernel_rfl)
    | true, false, false, _ => (show (_ : Bool) = _; kernel_rfl)
    | true, false, true, _ => (show (_ : Bool) = _; kernel_rfl)
    | true, true, false, _ => (show (_ : Bool) = _; kernel_rfl)
  · rintro y z na wv ⟨s1, s2, s3, rfl, hz, J⟩
    have hz0 : z = false := by
      cases z with
      | false => rfl
      | true => exact absurd (hz rfl).1 (by decide)
    subst hz0
    subst ha0
    refine wpOp_step rfl (fun K hK => ?_)
    (try simp only [Act.put, List.setIfInBounds_toArray, List.set_cons_zero, List.set_cons_succ] at hK ⊢)
    (try simp only [List.getElem_toArray, List.getElem_cons_succ, List.getElem_cons_zero])
    go_simp
    refine (unhide HBA _ (below_step bd0 J.bl)).mono ?_
    rintro e wz ⟨G, bs, us, rfl, hM⟩
    have hb := hM.bl
    have hM' := hM.rebase (below_step bd0 J.bl)
    have hbz := below_step J.bl hb
    exact hK _ _ ⟨(unhide HCW _ (below_step bd0 hbz)), _, s2, s3, rfl, fun h => (by cases h), hbz, fun _ => ⟨G, bs, us, rfl, hM'⟩, fun h => by
      obtain ⟨G2, e1, e2⟩ := J.rb h
      exact ⟨G2, e1, e2.keep hb⟩, fun _ h => by
      obtain ⟨G2, e1, e2⟩ := J.rb h
      refine ⟨G, bs, us, G2, rfl, e1, hM', e2.keep hb, fun i hi e => ?_⟩
      have h1 := hM.low i hi
      have h2 := (Array.getElem?_eq_some_iff.1 e2.row).1
      omega⟩
  · rintro x z na wv ⟨s1, s2, s3, rfl, hz, J⟩
    subst ha0
    have qmk := make_ratios (n : Int) (by omega) (by omega) wv
    rw [Int.toNat_natCast] at qmk
    have hb := alloc_below wv (.cells (tcells (List.replicate n zTri)).toArray 33)
    refine wpOp_step rfl (fun K hK => ?_)
    (try simp only [Act.put, List.setIfInBounds_toArray, List.set_cons_zero, List.set_cons_succ] at hK ⊢)
    (try simp only [List.getElem_toArray, List.getElem_cons_succ, List.getElem_cons_zero])
    go_simp
    have hS := SumsAt.start w1 wv n (below_step bd0 J.bl)
    have hbz := below_step J.bl hb
    exact hK _ _ ⟨(unhide HCW _ (below_step bd0 hbz)), s1, _, s3, rfl, hz, hbz, fun h => by
      obtain ⟨G, bs, us, e1, e2⟩ := J.ra h
      exact ⟨G, bs, us, e1, e2.keep hb⟩, fun _ => ⟨_, rfl, hS⟩, fun h _ => by
      obtain ⟨G, bs, us, e1, e2⟩ := J.ra h
      refine ⟨G, bs, us, _, e1, rfl, e2.keep hb, hS, fun i hi e => ?_⟩
      have h1 := e2.lt hi
      omega⟩
  · rintro y na wv ⟨s1, s2, s3, rfl, hz, J⟩
    subst ha0
    refine wpOp_step rfl (fun K hK => ?_)
    (try simp only [Act.put, List.setIfInBounds_toArray, List.set_cons_zero, List.set_cons_succ] at hK ⊢)
    (try simp only [List.getElem_toArray, List.getElem_cons_succ, List.getElem_cons_zero])
    go_simp
    have hbz := J.bl
    exact hK _ _ ⟨(unhide HCW _ (below_step bd0 hbz)), s1, s2, s1, rfl, fun _ => ⟨by trivial, rfl⟩, J⟩
  rintro na wv ⟨s1, s2, s3, rfl, hz, J⟩
  obtain ⟨_, rfl⟩ := hz rfl
  subst ha0
  have hbz := J.bl
  have hCv : (fun w' : World => w'.cell? ⟨g, 0, none⟩ = some (.slice l.a n l.c) ∧ w'.cell? ⟨g, 1, none⟩ = some (.bool t.s) ∧ w'.cell? ⟨g, 2, none⟩ = some (.slice t.a1 t.n1 t.c1) ∧ w'.cell? ⟨g, 3, none⟩ = some (.slice t.a2 t.n2 t.c2)) wv := (unhide HCW _ (below_step bd0 hbz))
  obtain ⟨G, bs, us0, G2, rfl, rfl, hM0, hS0, hNE⟩ := J.rab rfl rfl
  refine wpHold_take (i := 7) (v := ?_) rfl (by kernel_rfl) (by kernel_rfl) (by kernel_rfl) (fun _ _ _ h => h) (Or.inl ⟨by rfl, ?_⟩) hCv ?_
  rotate_left
  · intro w hSw; clear hSw; go_simp; (try with_reducible rfl)
  (try simp only [List.getElem_toArray, List.getElem_cons_succ, List.getElem_cons_zero])
  (try simp only [Act.put, List.setIfInBounds_toArray, List.set_cons_zero, List.set_cons_succ])
  refine wpHold_done (by kernel_rfl) ?_ _
  have HM0 := hide (hM0.congr (N := opm M d n L 0) (fun i j _ _ => (opm_none M d n L i j).symm))
  have HS0 := hide hS0
  have HNE := hide hNE
  clear J hM0 hS0 hNE bd0 hWx hC0 hCv hbz hz
  go_wp2_with fail
  clear hLw
  go_loopw [30] (fun vi wr => ∃ (s : Nat) (us : Nat → List Tri), vi = .int .i64 (s : Int) ∧ s ≤ n ∧ MatAt w1 wr G n n n bs us (opm M d n L s) ∧ SumsAt w1 wr G2 (List.replicate n zTri) (List.replicate n 0)) (fun vi _ => n - (intOf vi).toNat)
  case atStart => exact ⟨0, _, rfl, Nat.zero_le _, unhide HM0, unhide HS0⟩
  case round =>
    obtain ⟨s, us, rfl, hs, hMt, hSm⟩ := hrel
    clear HM0 HS0
    by_cases hlt : s < n
    · have e1 : (s : Int) < (n : Int) := by omega
      have e0 : (0 : Int) ≤ (s : Int) := by omega
      obtain ⟨gs, hgs⟩ : ∃ x, bs L = x := ⟨_, rfl⟩
      have HGS := hide hgs
      have HM5 := hide hMt
      have HS5 := hide hSm
      have HCC : Hid (∀ W, Below wr.heap.size wr W → (fun w' : World => w'.cell? ⟨G, L, none⟩ = some (.slice (some ⟨gs, 0, none⟩) n n)) W) := fun W hW => by
        have hh := ((unhide HM5).keep hW).head (i := L) (by omega) (by omega)
        rw [hgs] at hh
        exact hh
      clear hMt hSm hgs
      go_wp2_with fail
      refine wp_region_till (fun w' : World => w'.cell? ⟨G, L, none⟩ = some (.slice (some ⟨gs, 0, none⟩) n n)) 7 (by kernel_rfl) ?_
      have bd0 : Below wr.heap.size wr wr.drew := (Below.refl _ _).drew
      have hC0 : (fun w' : World => w'.cell? ⟨G, L, none⟩ = some (.slice (some ⟨gs, 0, none⟩) n n)) wr.drew := unhide HCC _ bd0
      refine wpTill_pure (i := 0) (v := ?_) rfl (by kernel_rfl) (by kernel_rfl) (by kernel_rfl) (by kernel_rfl) (fun _ _ _ h => h) (Or.inl ⟨by rfl, ?_⟩) (fun _ => hC0) ?_
      rotate_left
      · intro w hSw; clear hSw; go_simp; (try with_reducible rfl)
      (try simp only [List.getElem_toArray, List.getElem_cons_succ, List.getElem_cons_zero])
      (try simp only [Act.put, List.setIfInBounds_toArray, List.set_cons_zero, List.set_cons_succ])
      refine wpTill_pure (i := 1) (v := ?_) rfl (by kernel_rfl) (by kernel_rfl) (by kernel_rfl) (by kernel_rfl) (fun _ _ _ h => h) (Or.inl ⟨by rfl, ?_⟩) (fun _ => hC0) ?_
      rotate_left
      · intro w hSw; clear hSw; go_simp; (try with_reducible rfl)
      (try simp only [List.getElem_toArray, List.getElem_cons_succ, List.getElem_cons_zero])
      (try simp only [Act.put, List.setIfInBounds_toArray, List.set_cons_zero, List.set_cons_succ])
      refine wpTill_pure (i := 2) (v := ?_) rfl (by kernel_rfl) (by kernel_rfl) (by kernel_rfl) (by kernel_rfl) (fun _ _ _ h => h) (Or.inl ⟨by rfl, ?_⟩) (fun _ => hC0) ?_
      rotate_left
      · intro w hSw; clear hSw; go_simp; (try with_reducible rfl)
      (try simp only [List.getElem_toArray, List.getElem_cons_succ, List.getElem_cons_zero])
      (try simp only [Act.put, List.setIfInBounds_toArray, List.set_cons_zero, List.set_cons_succ])
      refine wpTill_take (i := 3) (v := ?_) rfl (by kernel_rfl) (by kernel_rfl) (by kernel_rfl) (by kernel_rfl) (by kernel_rfl) (by kernel_rfl) (fun _ _ _ h => h) (Or.inl ⟨by rfl, ?_⟩) hC0 ?_
      rotate_left
      · intro w hSw; (try dsimp only at hSw); obtain z0 := hSw; go_simp; (try with_reducible rfl)
      (try simp only [List.getElem_toArray, List.getElem_cons_succ, List.getElem_cons_zero])
      (try simp only [Act.put, List.setIfInBounds_toArray, List.set_cons_zero, List.set_cons_succ])
      refine wpTill_pure (i := 4) (v := ?_) rfl (by kernel_rfl) (by kernel_rfl) (by kernel_rfl) (by kernel_rfl) (fun _ _ _ h => h) (Or.inl ⟨by rfl, ?_⟩) (fun _ => hC0) ?_
      rotate_left
      · intro w hSw; clear hSw; go_simp; (try with_reducible rfl)
      (try simp only [List.getElem_toArray, List.getElem_cons_succ, List.getElem_cons_zero])
      (try simp only [Act.put, List.setIfInBounds_toArray, List.set_cons_zero, List.set_cons_succ])
      refine wpTill_one (k := 5) (by kernel_rfl) rfl (fun K hK => ?_)
      (try simp only [List.getElem_toArray, List.getElem_cons_succ, List.getElem_cons_zero])
      go_simp
      refine (whole_any 1 (by decide) (by decide) _).mono ?_
      rintro e xw_1 ⟨xv_1, rfl, hv_1, hb_1⟩
      have cc_1 := below_step bd0 hb_1
      have hC_1 : (fun w' : World => w'.cell? ⟨G, L, none⟩ = some (.slice (some ⟨gs, 0, none⟩) n n)) xw_1 := unhide HCC _ cc_1
      refine hK.out _ _ (fun _ => hC_1) ?_
      clear hK K
      (try simp only [Act.put, List.setIfInBounds_toArray, List.set_cons_zero, List.set_cons_succ])
      refine wpTill_pure (i := 6) (v := ?_) rfl (by kernel_rfl) (by kernel_rfl) (by kernel_rfl) (by kernel_rfl) (fun _ _ _ h => h) (Or.inl ⟨by rfl, ?_⟩) (fun _ => hC_1) ?_
      rotate_left
      · intro w hSw; clear hSw; go_simp; (try with_reducible rfl)
      (try simp only [List.getElem_toArray, List.getElem_cons_succ, List.getElem_cons_zero])
      (try simp only [Act.put, List.setIfInBounds_toArray, List.set_cons_zero, List.set_cons_succ])
      obtain ⟨t5, rfl, r5⟩ := tri_of hv_1
      simp only [Tri.val]
      have S8 := (unhide HM5).keep cc_1
      have ⟨⟨y0, y1, y2⟩, f0, f1, f2⟩ := S8.cells (i := L) (j := s) (by omega) hlt
      have FZ := S8.set (i := L) (j := s) (by omega) hlt t5 _ r5
      have SF := (unhide HS5).keep cc_1
      have FS2 := SF.apart' (S8.blk L (by omega)) (Ne.symm (unhide HNE L (by omega))) (S8.low L (by omega)) (s * 3) (s * 3 + 1) (s * 3 + 2) (.bool t5.s) (.slice t5.a1 t5.n1 t5.c1) (.slice t5.a2 t5.n2 t5.c2)
      rw [unhide HGS] at y0 y1 y2 f0 f1 f2 FZ FS2
      obtain ⟨W9, hW9⟩ : ∃ W, ((xw_1.setCell ⟨gs, s * 3, none⟩ (.bool t5.s)).setCell ⟨gs, s * 3 + 1, none⟩ (.slice t5.a1 t5.n1 t5.c1)).setCell ⟨gs, s * 3 + 2, none⟩ (.slice t5.a2 t5.n2 t5.c2) = W := ⟨_, rfl⟩
      rw [hW9] at FZ FS2
      have FZ2 := FZ.congr (N := opm M d n L (s + 1)) (fun i j _ _ => opm_next M d n L s i j)
      have HFZ := hide FZ2
      have HFS := hide FS2
      clear S8 FZ FZ2 SF FS2 r5 hv_1
      refine wpTill_one (k := 7) (by kernel_rfl) rfl (fun K hK => ?_)
      (try simp only [List.getElem_toArray, List.getElem_cons_succ, List.getElem_cons_zero])
      go_simp
      refine hK.out _ _ (fun h => absurd (h.symm.trans (by kernel_rfl)) Bool.false_ne_true) ?_
      clear hK K
      (try simp only [Act.put, List.setIfInBounds_toArray, List.set_cons_zero, List.set_cons_succ])
      refine wpTill_done (by kernel_rfl) ?_ _
      clear HCC HM5 HS5 y0 y1 y2 f0 f1 f2 hW9 hC0 hC_1 cc_1 bd0 hb_1
      go_wp2_with fail
      exact ⟨⟨s + 1, _, by go_num, hlt, unhide HFZ, unhide HFS⟩, by simp [intOf]; omega⟩
    · obtain rfl : s = n := by omega
      have e1 : ¬ (s : Int) < (s : Int) := by omega
      have HM5 := hide hMt
      have HS5 := hide hSm
      clear hMt hSm
      go_wp2_with fail
      refine (whole_any 1 (by decide) (by decide) _).mono ?_
      rintro e w5 ⟨v5, rfl, hv5, hb5⟩
      obtain ⟨t5, rfl, r5⟩ := tri_of hv5
      simp only [Tri.val]
      have S8 := (unhide HS5).keep hb5
      have M8 := (unhide HM5).keep hb5
      have hLl : L < (List.replicate s zTri).length := by rw [List.length_replicate]; omega
      have ⟨⟨y0, y1, y2⟩, f0, f1, f2⟩ := S8.cells L hLl
      have FZ := S8.set L hLl t5 _ r5
      have MZ := M8.rowed S8.row S8.gl (unhide HNE) (L * 3) (L * 3 + 1) (L * 3 + 2) (.bool t5.s) (.slice t5.a1 t5.n1 t5.c1) (.slice t5.a2 t5.n2 t5.c2)
      obtain ⟨W9, hW9⟩ : ∃ W, ((w5.setCell ⟨G2, L * 3, none⟩ (.bool t5.s)).setCell ⟨G2, L * 3 + 1, none⟩ (.slice t5.a1 t5.n1 t5.c1)).setCell ⟨G2, L * 3 + 2, none⟩ (.slice t5.a2 t5.n2 t5.c2) = W := ⟨_, rfl⟩
      rw [hW9] at FZ MZ
      rw [onl_row L s] at FZ
      have HC := hide (unhide HSV W9 G bs us G2 _ MZ FZ (by rw [List.length_set, List.length_replicate]))
      have HB := hide (below_step (unhide HB1) MZ.bl)
      clear hb5 hv5 r5 S8 M8 FZ MZ hLl HM5 HS5
      go_wp2_with fail
      refine (unhide HC).mono ?_
      rintro e w6 (⟨v6, x, rfl, hv6, hx6, hr6, hb6⟩ | ⟨_, rfl, hb6⟩)
      · have HV6 := hide hv6
        obtain ⟨a6, c6, rfl, _, _, _⟩ := hv6
        rw [row_length] at HV6 ⊢
        have HX6 := hide hx6.1
        have HR6 := hide hr6
        have HB6 := hide (below_step (unhide HB) hb6)
        clear hx6 hr6 hb6 HC y0 y1 y2 f0 f1 f2 hW9
        go_wp2
        go_ret2
        refine Or.inl ⟨unhide HGM, unhide HG2, unhide HG3, Or.inl ⟨_, x, rfl, by rw [unhide HN]; exact unhide HV6, ?_, by rw [unhide HN]; exact unhide HR6, unhide HB6⟩⟩
        rw [unhide HN, unhide HM, unhide HD]; exact unhide HX6
      · have HB6 := hide (below_step (unhide HB) hb6)
        clear hb6 HC y0 y1 y2 f0 f1 f2 hW9
        go_wp2
        go_ret2
        exact Or.inl ⟨unhide HGM, unhide HG2, unhide HG3, Or.inr ⟨8, rfl, unhide HB6⟩⟩

end Go.Proofs.YtaacibgmdeoikaaGreatDoor
