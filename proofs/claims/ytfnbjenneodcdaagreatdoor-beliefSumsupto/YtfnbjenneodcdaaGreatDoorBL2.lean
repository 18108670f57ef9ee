/- Hidden states: withSign, likeliest, most. -/
import Derived.Test.YtfnbjenneodcdaaGreatDoorLA
namespace Go.Proofs.YtfnbjenneodcdaaGreatDoor
open Go.RowKit Go.Sort Go.Shelf

/-- A law's cells, by its length. -/
theorem LawIs.open {w : World} {l : Sl} {qs : List Rat} {n : Nat} (h : LawIs w l.val qs) (hl : qs.length = n) (hp : 0 < n) : ∃ b o, l.a = some ⟨b, o, none⟩ ∧ b < w.heap.size ∧ ∀ j, j < n → ∃ t : Tri, w.cell? ⟨b, o + j * 3, none⟩ = some (.bool t.s) ∧ w.cell? ⟨b, o + j * 3 + 1, none⟩ = some (.slice t.a1 t.n1 t.c1) ∧ w.cell? ⟨b, o + j * 3 + 2, none⟩ = some (.slice t.a2 t.n2 t.c2) ∧ RatIs w t.val qs[j]! := by
  obtain ⟨a, c, e, _, _, h3⟩ := h
  obtain ⟨b, o, ea, hlt, hc⟩ := h3 (by omega)
  have e1 : l.a = a := by injection e
  refine ⟨b, o, by rw [e1, ea], hlt, fun j hj => ?_⟩
  obtain ⟨s, a1, a2, n1, c1, n2, c2, k0, k1, k2, r⟩ := hc j (by omega)
  exact ⟨⟨s, a1, a2, n1, c1, n2, c2⟩, k0, k1, k2, r⟩
theorem KK_is : KK = 1099511627776 := rfl
/-- A fresh row of fractions. -/
def RowPost (w : World) (qs : List Rat) (e : Ending) (w' : World) : Prop := ∃ g n, e = .returned (.slice (some ⟨g, 0, none⟩) n n) ∧ n = qs.length ∧ w.heap.size ≤ g ∧ LawIs w' (.slice (some ⟨g, 0, none⟩) n n) qs ∧ Below w.heap.size w w'

set_option maxHeartbeats 16000000 in
set_option maxRecDepth 100000 in
set_option linter.unusedSimpArgs false in
theorem withSign_any (v : Value) (l : Sl) (fs : List Rat) (P G : List (List Rat)) (xs : List Rat) (s J : Nat) (w : World) (h : HmIs w v fs P G) (gm : GoodH fs P G) (sm : SmHm fs P G) (hx : LawIs w l.val xs) (hxl : xs.length = fs.length) (hs : s < (G[0]!).length) (hr : ∀ i, i < fs.length → RS xs[i]! J) (hJ1 : 1 ≤ J) (hJ : J + J + 1 ≤ KK) :
    Calls Tryz.prog 84 #[v, .slice l.a fs.length l.c, .int .i64 (s : Int)] w (RowPost w (row (Blf.wsg (hm fs P G) (fun i => xs[i]!) s) fs.length)) := by
  have HSM := hide sm
  have HGM := hide gm
  have hn1 := gm.n1
  have hn8 := gm.n8
  have hk8 := gm.k8
  obtain ⟨sf, sp, sg, rfl, hF, hP, hG⟩ := h
  have hfn := law_len hF
  have hpn := rows_len hP
  have hgn := rows_len hG
  obtain ⟨n, hn⟩ : ∃ n, fs.length = n := ⟨_, rfl⟩
  have HN := hide hn
  rw [hn] at hfn
  rw [gm.pl, hn] at hpn
  rw [gm.gl, hn] at hgn
  have X0 := HBox.new hF hP hG
  have b0 := alloc_below w (.cells #[.slice sf.a sf.n sf.c, .slice sp.a sp.n sp.c, .slice sg.a sg.n sg.c] 53)
  obtain ⟨W0, hW0⟩ : ∃ W, w.alloc (.cells #[.slice sf.a sf.n sf.c, .slice sp.a sp.n sp.c, .slice sg.a sg.n sg.c] 53) = W := ⟨_, rfl⟩
  obtain ⟨bx, hbx⟩ : ∃ b, w.heap.size = b := ⟨_, rfl⟩
  rw [hW0] at X0 b0
  rw [hbx] at X0
  have HX0 := hide X0
  have HB0 := hide b0
  have HCH : Hid (∀ W, Below W0.heap.size W0 W → (fun w' : World => w'.cell? ⟨bx, 0, none⟩ = some (.slice sf.a n sf.c) ∧ w'.cell? ⟨bx, 1, none⟩ = some (.slice sp.a n sp.c) ∧ w'.cell? ⟨bx, 2, none⟩ = some (.slice sg.a n sg.c)) W) := fun W hW => by
    have h1 := (unhide HX0).cells W hW
    rw [hfn, hpn, hgn] at h1
    exact h1
  have HIS : Hid (∀ W, Below W0.heap.size W0 W → HmIs W (.agg #[.slice sf.a n sf.c, .slice sp.a n sp.c, .slice sg.a n sg.c]) fs P G) := fun W hW => by
    have h1 := (unhide HX0).hm.below hW
    unfold hmval at h1
    rw [hfn, hpn, hgn] at h1
    exact h1
  have ⟨c0, c1, c2⟩ := unhide HCH _ (Below.refl _ _)
  have HFN := hide hfn
  have HPN := hide hpn
  have HGN := hide hgn
  unfold hmval
  rw [hfn, hpn, hgn] at hW0 ⊢
  clear hF hP hG X0 b0 hn hfn hpn hgn
  rw [unhide HN] at hn1 hn8 hxl hr ⊢
  obtain ⟨kk, hkk⟩ : ∃ x, (G[0]!).length = x := ⟨_, rfl⟩
  rw [hkk] at hs hk8
  have HKK := hide hkk
  have HXL := hide hxl
  have HR := hide hr
  have HJ1 := hide hJ1
  have HJ := hide hJ
  obtain ⟨bt, ot, hla, hbt, HT⟩ : ∃ b o, l.a = some ⟨b, o, none⟩ ∧ b < W0.heap.size ∧ Hid (∀ j, j < n → ∃ t : Tri, W0.cell? ⟨b, o + j * 3, none⟩ = some (.bool t.s) ∧ W0.cell? ⟨b, o + j * 3 + 1, none⟩ = some (.slice t.a1 t.n1 t.c1) ∧ W0.cell? ⟨b, o + j * 3 + 2, none⟩ = some (.slice t.a2 t.n2 t.c2) ∧ RatIs W0 t.val xs[j]!) := (hx.below (unhide HB0)).open hxl (by omega)
  have HBT := hide hbt
  rw [hla]
  have hcl : n ≤ l.c ∧ l.c ≤ 9223372036854775807 := by
    obtain ⟨a, c, e, h1, h2, _⟩ := hx
    have e1 : l.c = c := by injection e
    rw [e1]; exact ⟨by omega, h2⟩
  obtain ⟨hcl1, hcl2⟩ := hcl
  have qm2 := make_ratios (n : Int) (by omega) (by omega) W0
  rw [Int.toNat_natCast] at qm2
  have S3 := SumsAt.start W0 W0 n (Below.refl _ _)
  obtain ⟨f, hf⟩ : ∃ f, Blf.wsg (hm fs P G) (fun i => xs[i]!) s = f := ⟨_, rfl⟩
  rw [hf]
  have HF := hide hf
  obtain ⟨W1, hW1⟩ : ∃ W, W0.alloc (.cells (tcells (List.replicate n zTri)).toArray 26) = W := ⟨_, rfl⟩
  obtain ⟨GO, hGO⟩ : ∃ G, W0.heap.size = G := ⟨_, rfl⟩
  rw [hW1] at qm2 S3
  rw [hGO] at qm2
  have S3' : SumsAt W0 W1 GO (List.replicate n zTri) (fill f n 0) := by rw [← hGO, ← fill_zero]; exact S3
  have HS3 := hide S3'
  have HGO := hide hGO
  clear hx hxl hr hJ1 hJ hkk hla hbt S3 S3' sm gm hf
  go_enter Tryz.func84, Tryz.ntmps84
  go_wp2_with fail
  clear hW0 hbx c0 c1 c2 qm2 hW1 hGO
  go_loopw [14] (fun vj wr => ∃ (j : Nat) (ws : List Tri), vj = .int .i64 (j : Int) ∧ j ≤ n ∧ ws.length = n ∧ SumsAt W0 wr GO ws (fill f n j)) (fun vj _ => n - (intOf vj).toNat)
  case atStart => exact ⟨0, _, rfl, Nat.zero_le _, List.length_replicate, unhide HS3⟩
  case round =>
    obtain ⟨j, ws, rfl, hj, hws, T3⟩ := hrel
    clear HS3
    by_cases hlt : j < n
    · have j1 : (j : Int) < (n : Int) := by omega
      have j0 : (0 : Int) ≤ (j : Int) := by omega
      have s1 : (s : Int) < (kk : Int) := by omega
      have s0 : (0 : Int) ≤ (s : Int) := by omega
      have hltG : j < G.length := by rw [(unhide HGM).gl, unhide HN]; exact hlt
      have hbW := T3.bl
      obtain ⟨bg, og, mg, hga, hbg, g0, hD⟩ := ((unhide HX0).2.2.2).at hltG
      have hlg : (G[j]!).length = kk := by rw [(unhide HGM).gx j (by rw [unhide HN]; exact hlt)]; exact unhide HKK
      have hmg := law_len hD
      rw [hlg] at hmg
      obtain ⟨br, oR, hra, hbr, hcr⟩ := hD.open hlg (by omega)
      obtain ⟨tr, v0, v1, v2, rr⟩ := hcr s hs
      obtain ⟨tt, t0, t1, t2, rt⟩ := unhide HT j hlt
      obtain ⟨cr, hcr'⟩ : ∃ c, mg.c = c := ⟨_, rfl⟩
      rw [hra, hmg, hcr'] at g0
      have HCC : Hid (∀ W, Below wr.heap.size wr W → (fun w' : World => (w'.cell? ⟨bx, 0, none⟩ = some (.slice sf.a n sf.c) ∧ w'.cell? ⟨bx, 1, none⟩ = some (.slice sp.a n sp.c) ∧ w'.cell? ⟨bx, 2, none⟩ = some (.slice (some ⟨bg, og, none⟩) n sg.c)) ∧ w'.cell? ⟨bg, og + j, none⟩ = some (.slice (some ⟨br, oR, none⟩) kk cr) ∧ (w'.cell? ⟨bt, ot + j * 3, none⟩ = some (.bool tt.s) ∧ w'.cell? ⟨bt, ot + j * 3 + 1, none⟩ = some (.slice tt.a1 tt.n1 tt.c1) ∧ w'.cell? ⟨bt, ot + j * 3 + 2, none⟩ = some (.slice tt.a2 tt.n2 tt.c2)) ∧ (w'.cell? ⟨br, oR + s * 3, none⟩ = some (.bool tr.s) ∧ w'.cell? ⟨br, oR + s * 3 + 1, none⟩ = some (.slice tr.a1 tr.n1 tr.c1) ∧ w'.cell? ⟨br, oR + s * 3 + 2, none⟩ = some (.slice tr.a2 tr.n2 tr.c2))) W) := fun W hW => by
        have h2 := below_step hbW hW
        have h1 := unhide HCH _ h2
        rw [hga] at h1
        refine ⟨h1, ?_, ⟨?_, ?_, ?_⟩, ?_, ?_, ?_⟩
        · rw [h2.cell (p := ⟨bg, og + j, none⟩) hbg]; exact g0
        · rw [h2.cell (p := ⟨bt, ot + j * 3, none⟩) (unhide HBT)]; exact t0
        · rw [h2.cell (p := ⟨bt, ot + j * 3 + 1, none⟩) (unhide HBT)]; exact t1
        · rw [h2.cell (p := ⟨bt, ot + j * 3 + 2, none⟩) (unhide HBT)]; exact t2
        · rw [h2.cell (p := ⟨br, oR + s * 3, none⟩) hbr]; exact v0
        · rw [h2.cell (p := ⟨br, oR + s * 3 + 1, none⟩) hbr]; exact v1
        · rw [h2.cell (p := ⟨br, oR + s * 3 + 2, none⟩) hbr]; exact v2
      have HTT := hide (rt.below hbW)
      have HTR := hide (rr.below hbW)
      have HRT := hide (unhide HR j hlt)
      have HRR := hide (((unhide HSM).rg j s hltG (by rw [hlg]; exact hs)).mono (unhide HJ1))
      have HQV : Hid (xs[j]! * (G[j]!)[s]! = f j) := by show _ = f j; rw [← unhide HF]; rfl
      have HS5 := hide T3
      have HUL := hide hws
      clear T3 hws hD hlg hmg hra hbr hcr v0 v1 v2 rr t0 t1 t2 rt g0 hga hbg hcr' hltG hbW
      go_wp2_with fail
      refine wp_region_till (fun w' : World => (w'.cell? ⟨bx, 0, none⟩ = some (.slice sf.a n sf.c) ∧ w'.cell? ⟨bx, 1, none⟩ = some (.slice sp.a n sp.c) ∧ w'.cell? ⟨bx, 2, none⟩ = some (.slice (some ⟨bg, og, none⟩) n sg.c)) ∧ w'.cell? ⟨bg, og + j, none⟩ = some (.slice (some ⟨br, oR, none⟩) kk cr) ∧ (w'.cell? ⟨bt, ot + j * 3, none⟩ = some (.bool tt.s) ∧ w'.cell? ⟨bt, ot + j * 3 + 1, none⟩ = some (.slice tt.a1 tt.n1 tt.c1) ∧ w'.cell? ⟨bt, ot + j * 3 + 2, none⟩ = some (.slice tt.a2 tt.n2 tt.c2)) ∧ (w'.cell? ⟨br, oR + s * 3, none⟩ = some (.bool tr.s) ∧ w'.cell? ⟨br, oR + s * 3 + 1, none⟩ = some (.slice tr.a1 tr.n1 tr.c1) ∧ w'.cell? ⟨br, oR + s * 3 + 2, none⟩ = some (.slice tr.a2 tr.n2 tr.c2))) 16 (by kernel_rfl) ?_
      have bd0 : Below wr.heap.size wr wr.drew := (Below.refl _ _).drew
      obtain ⟨Wd, hWd⟩ : ∃ W, wr.drew = W := ⟨_, rfl⟩
      rw [hWd] at bd0 ⊢
      have hC0 : (fun w' : World => (w'.cell? ⟨bx, 0, none⟩ = some (.slice sf.a n sf.c) ∧ w'.cell? ⟨bx, 1, none⟩ = some (.slice sp.a n sp.c) ∧ w'.cell? ⟨bx, 2, none⟩ = some (.slice (some ⟨bg, og, none⟩) n sg.c)) ∧ w'.cell? ⟨bg, og + j, none⟩ = some (.slice (some ⟨br, oR, none⟩) kk cr) ∧ (w'.cell? ⟨bt, ot + j * 3, none⟩ = some (.bool tt.s) ∧ w'.cell? ⟨bt, ot + j * 3 + 1, none⟩ = some (.slice tt.a1 tt.n1 tt.c1) ∧ w'.cell? ⟨bt, ot + j * 3 + 2, none⟩ = some (.slice tt.a2 tt.n2 tt.c2)) ∧ (w'.cell? ⟨br, oR + s * 3, none⟩ = some (.bool tr.s) ∧ w'.cell? ⟨br, oR + s * 3 + 1, none⟩ = some (.slice tr.a1 tr.n1 tr.c1) ∧ w'.cell? ⟨br, oR + s * 3 + 2, none⟩ = some (.slice tr.a2 tr.n2 tr.c2))) Wd := unhide HCC _ bd0
      refine wpTill_pure (i := 0) (v := ?_) rfl (by kernel_rfl) (by kernel_rfl) (by kernel_rfl) (by kernel_rfl) (fun _ _ _ h => h) (Or.inl ⟨by rfl, ?_⟩) (fun _ => hC0) ?_
      rotate_left
      · intro w hSw; clear hSw; go_simp; (try with_reducible rfl)
      (try simp only [List.getElem_toArray, List.getElem_cons_succ, List.getElem_cons_zero])
      (try simp only [Act.put, List.setIfInBounds_toArray, List.set_cons_zero, List.set_cons_succ])
      refine wpTill_pure (i := 1) (v := ?_) rfl (by kernel_rfl) (by kernel_rfl) (by kernel_rfl) (by kernel_rfl) (fun _ _ _ h => h) (Or.inl ⟨by rfl, ?_⟩) (fun _ => hC0) ?_
      rotate_left
      · intro w hSw; clear hSw; go_simp; (try with_reducible rfl)
      (try simp only [List.getElem_toArray, List.getElem_cons_succ, List.getElem_cons_zero])
      (try simp only [Act.put, List.setIfInBounds_toArray, List.set_cons_zero, List.set_cons_succ])
      refine wpTill_pure (i := 2) (v := ?_) rfl (by kernel_rfl) (by kernel_rfl) (by kernel_rfl) (by kernel_rfl) (fun _ _ _ h => h) (Or.inl ⟨by rfl, ?_⟩) (fun _ => hC0) ?_
      rotate_left
      · intro w hSw; clear hSw; go_simp; (try with_reducible rfl)
      (try simp only [List.getElem_toArray, List.getElem_cons_succ, List.getElem_cons_zero])
      (try simp only [Act.put, List.setIfInBounds_toArray, List.set_cons_zero, List.set_cons_succ])
      refine wpTill_pure (i := 3) (v := ?_) rfl (by kernel_rfl) (by kernel_rfl) (by kernel_rfl) (by kernel_rfl) (fun _ _ _ h => h) (Or.inl ⟨by rfl, ?_⟩) (fun _ => hC0) ?_
      rotate_left
      · intro w hSw; clear hSw; go_simp; (try with_reducible rfl)
      (try simp only [List.getElem_toArray, List.getElem_cons_succ, List.getElem_cons_zero])
      (try simp only [Act.put, List.setIfInBounds_toArray, List.set_cons_zero, List.set_cons_succ])
      refine wpTill_pure (i := 4) (v := ?_) rfl (by kernel_rfl) (by kernel_rfl) (by kernel_rfl) (by kernel_rfl) (fun _ _ _ h => h) (Or.inl ⟨by rfl, ?_⟩) (fun _ => hC0) ?_
      rotate_left
      · intro w hSw; clear hSw; go_simp; (try with_reducible rfl)
      (try simp only [List.getElem_toArray, List.getElem_cons_succ, List.getElem_cons_zero])
      (try simp only [Act.put, List.setIfInBounds_toArray, List.set_cons_zero, List.set_cons_succ])
      refine wpTill_take (i := 5) (v := ?_) rfl (by kernel_rfl) (by kernel_rfl) (by kernel_rfl) (by kernel_rfl) (by kernel_rfl) (by kernel_rfl) (fun _ _ _ h => h) (Or.inl ⟨by rfl, ?_⟩) hC0 ?_
      rotate_left
      · intro w hSw; (try dsimp only at hSw); obtain ⟨⟨u0, u1, u2⟩, u3, ⟨u4, u5, u6⟩, ⟨u7, u8, u9⟩⟩ := hSw; go_simp; (try with_reducible rfl)
      (try simp only [List.getElem_toArray, List.getElem_cons_succ, List.getElem_cons_zero])
      (try simp only [Act.put, List.setIfInBounds_toArray, List.set_cons_zero, List.set_cons_succ])
      refine wpTill_pure (i := 6) (v := ?_) rfl (by kernel_rfl) (by kernel_rfl) (by kernel_rfl) (by kernel_rfl) (fun _ _ _ h => h) (Or.inl ⟨by rfl, ?_⟩) (fun _ => hC0) ?_
      rotate_left
      · intro w hSw; clear hSw; go_simp; (try with_reducible rfl)
      (try simp only [List.getElem_toArray, List.getElem_cons_succ, List.getElem_cons_zero])
      (try simp only [Act.put, List.setIfInBounds_toArray, List.set_cons_zero, List.set_cons_succ])
      refine wpTill_take (i := 7) (v := ?_) rfl (by kernel_rfl) (by kernel_rfl) (by kernel_rfl) (by kernel_rfl) (by kernel_rfl) (by kernel_rfl) (fun _ _ _ h => h) (Or.inl ⟨by rfl, ?_⟩) hC0 ?_
      rotate_left
      · intro w hSw; (try dsimp only at hSw); obtain ⟨⟨u0, u1, u2⟩, u3, ⟨u4, u5, u6⟩, ⟨u7, u8, u9⟩⟩ := hSw; go_simp; (try with_reducible rfl)
      (try simp only [List.getElem_toArray, List.getElem_cons_succ, List.getElem_cons_zero])
      (try simp only [Act.put, List.setIfInBounds_toArray, List.set_cons_zero, List.set_cons_succ])
      refine wpTill_pure (i := 8) (v := ?_) rfl (by kernel_rfl) (by kernel_rfl) (by kernel_rfl) (by kernel_rfl) (fun _ _ _ h => h) (Or.inl ⟨by rfl, ?_⟩) (fun _ => hC0) ?_
      rotate_left
      · intro w hSw; clear hSw; go_simp; (try with_reducible rfl)
      (try simp only [List.getElem_toArray, List.getElem_cons_succ, List.getElem_cons_zero])
      (try simp only [Act.put, List.setIfInBounds_toArray, List.set_cons_zero, List.set_cons_succ])
      refine wpTill_pure (i := 9) (v := ?_) rfl (by kernel_rfl) (by kernel_rfl) (by kernel_rfl) (by kernel_rfl) (fun _ _ _ h => h) (Or.inl ⟨by rfl, ?_⟩) (fun _ => hC0) ?_
      rotate_left
      · intro w hSw; clear hSw; go_simp; (try with_reducible rfl)
      (try simp only [List.getElem_toArray, List.getElem_cons_succ, List.getElem_cons_zero])
      (try simp only [Act.put, List.setIfInBounds_toArray, List.set_cons_zero, List.set_cons_succ])
      refine wpTill_take (i := 10) (v := ?_) rfl (by kernel_rfl) (by kernel_rfl) (by kernel_rfl) (by kernel_rfl) (by kernel_rfl) (by kernel_rfl) (fun _ _ _ h => h) (Or.inl ⟨by rfl, ?_⟩) hC0 ?_
      rotate_left
      · intro w hSw; (try dsimp only at hSw); obtain ⟨⟨u0, u1, u2⟩, u3, ⟨u4, u5, u6⟩, ⟨u7, u8, u9⟩⟩ := hSw; go_simp; (try with_reducible rfl)
      (try simp only [List.getElem_toArray, List.getElem_cons_succ, List.getElem_cons_zero])
      (try simp only [Act.put, List.setIfInBounds_toArray, List.set_cons_zero, List.set_cons_succ])
      refine wpTill_pure (i := 11) (v := ?_) rfl (by kernel_rfl) (by kernel_rfl) (by kernel_rfl) (by kernel_rfl) (fun _ _ _ h => h) (Or.inl ⟨by rfl, ?_⟩) (fun _ => hC0) ?_
      rotate_left
      · intro w hSw; clear hSw; go_simp; (try with_reducible rfl)
      (try simp only [List.getElem_toArray, List.getElem_cons_succ, List.getElem_cons_zero])
      (try simp only [Act.put, List.setIfInBounds_toArray, List.set_cons_zero, List.set_cons_succ])
      refine wpTill_pure (i := 12) (v := ?_) rfl (by kernel_rfl) (by kernel_rfl) (by kernel_rfl) (by kernel_rfl) (fun _ _ _ h => h) (Or.inl ⟨by rfl, ?_⟩) (fun _ => hC0) ?_
      rotate_left
      · intro w hSw; clear hSw; go_simp; (try with_reducible rfl)
      (try simp only [List.getElem_toArray, List.getElem_cons_succ, List.getElem_cons_zero])
      (try simp only [Act.put, List.setIfInBounds_toArray, List.set_cons_zero, List.set_cons_succ])
      refine wpTill_take (i := 13) (v := ?_) rfl (by kernel_rfl) (by kernel_rfl) (by kernel_rfl) (by kernel_rfl) (by kernel_rfl) (by kernel_rfl) (fun _ _ _ h => h) (Or.inl ⟨by rfl, ?_⟩) hC0 ?_
      rotate_left
      · intro w hSw; (try dsimp only at hSw); obtain ⟨⟨u0, u1, u2⟩, u3, ⟨u4, u5, u6⟩, ⟨u7, u8, u9⟩⟩ := hSw; go_simp; (try with_reducible rfl)
      (try simp only [List.getElem_toArray, List.getElem_cons_succ, List.getElem_cons_zero])
      (try simp only [Act.put, List.setIfInBounds_toArray, List.set_cons_zero, List.set_cons_succ])
      refine wpTill_one (k := 14) (by kernel_rfl) rfl (fun K hK => ?_)
      (try simp only [List.getElem_toArray, List.getElem_cons_succ, List.getElem_cons_zero])
      go_simp
      refine (mulR_any tt.val tr.val _ _ _ ((unhide HTT).below bd0) ((unhide HTR).below bd0) J (unhide HRT) (unhide HRR) (unhide HJ)).mono ?_
      rintro e xw_1 ⟨xv_1, rfl, hv_1, hb_1⟩
      have cc_1 := below_step bd0 hb_1
      have hC_1 : (fun w' : World => (w'.cell? ⟨bx, 0, none⟩ = some (.slice sf.a n sf.c) ∧ w'.cell? ⟨bx, 1, none⟩ = some (.slice sp.a n sp.c) ∧ w'.cell? ⟨bx, 2, none⟩ = some (.slice (some ⟨bg, og, none⟩) n sg.c)) ∧ w'.cell? ⟨bg, og + j, none⟩ = some (.slice (some ⟨br, oR, none⟩) kk cr) ∧ (w'.cell? ⟨bt, ot + j * 3, none⟩ = some (.bool tt.s) ∧ w'.cell? ⟨bt, ot + j * 3 + 1, none⟩ = some (.slice tt.a1 tt.n1 tt.c1) ∧ w'.cell? ⟨bt, ot + j * 3 + 2, none⟩ = some (.slice tt.a2 tt.n2 tt.c2)) ∧ (w'.cell? ⟨br, oR + s * 3, none⟩ = some (.bool tr.s) ∧ w'.cell? ⟨br, oR + s * 3 + 1, none⟩ = some (.slice tr.a1 tr.n1 tr.c1) ∧ w'.cell? ⟨br, oR + s * 3 + 2, none⟩ = some (.slice tr.a2 tr.n2 tr.c2))) xw_1 := unhide HCC _ cc_1
      refine hK.out _ _ (fun _ => hC_1) ?_
      clear hK K
      (try simp only [Act.put, List.setIfInBounds_toArray, List.set_cons_zero, List.set_cons_succ])
      refine wpTill_pure (i := 15) (v := ?_) rfl (by kernel_rfl) (by kernel_rfl) (by kernel_rfl) (by kernel_rfl) (fun _ _ _ h => h) (Or.inl ⟨by rfl, ?_⟩) (fun _ => hC_1) ?_
      rotate_left
      · intro w hSw; clear hSw; go_simp; (try with_reducible rfl)
      (try simp only [List.getElem_toArray, List.getElem_cons_succ, List.getElem_cons_zero])
      (try simp only [Act.put, List.setIfInBounds_toArray, List.set_cons_zero, List.set_cons_succ])
      obtain ⟨t5, rfl, r5⟩ := tri_of hv_1
      simp only [Tri.val]
      have S8 := (unhide HS5).keep cc_1
      have ⟨⟨y0, y1, y2⟩, g0, g1, g2⟩ := S8.cells j (by rw [unhide HUL]; exact hlt)
      have FZ := S8.set j (by rw [unhide HUL]; exact hlt) t5 _ r5
      obtain ⟨W9, hW9⟩ : ∃ W, ((xw_1.setCell ⟨GO, j * 3, none⟩ (.bool t5.s)).setCell ⟨GO, j * 3 + 1, none⟩ (.slice t5.a1 t5.n1 t5.c1)).setCell ⟨GO, j * 3 + 2, none⟩ (.slice t5.a2 t5.n2 t5.c2) = W := ⟨_, rfl⟩
      rw [hW9, unhide HQV, fill_set] at FZ
      have HFZ := hide FZ
      clear S8 FZ r5 hv_1
      refine wpTill_one (k := 16) (by kernel_rfl) rfl (fun K hK => ?_)
      (try simp only [List.getElem_toArray, List.getElem_cons_succ, List.getElem_cons_zero])
      go_simp
      refine hK.out _ _ (fun h => absurd (h.symm.trans (by kernel_rfl)) Bool.false_ne_true) ?_
      clear hK K
      (try simp only [Act.put, List.setIfInBounds_toArray, List.set_cons_zero, List.set_cons_succ])
      refine wpTill_done (by kernel_rfl) ?_ _
      clear HCC HTT HTR
      clear y0 y1 y2 g0 g1 g2 hW9 hC0 hC_1 cc_1 bd0 hb_1 hWd
      go_wp2_with fail
      exact ⟨⟨j + 1, _, by go_num, hlt, by rw [List.length_set]; exact unhide HUL, unhide HFZ⟩, by simp [intOf]; omega⟩
    · obtain rfl : j = n := by omega
      have j1 : ¬ (j : Int) < (j : Int) := by omega
      have hlaw := T3.law (by omega)
      rw [hws] at hlaw
      have HLW : Hid (LawIs wr (.slice (some ⟨GO, 0, none⟩) j j) (row f j)) := hlaw
      have HB := hide (below_step (unhide HB0) T3.bl)
      clear T3 hlaw hws
      go_wp2
      go_ret
      exact ⟨GO, j, rfl, (row_length _ _).symm, by rw [← unhide HGO]; exact (unhide HB0).size, unhide HLW, unhide HB⟩

theorem chain_one_any {P : Program} {ops : Array Oper} {Q : Exit → Act → World → Prop} {C : World → Prop} {md : Region.Mode} (N : Nat) (mk : Nat → Bool → Array Bool) (ic : Nat → Nat) (ia m : Nat) (I : Nat → Bool → Act → World → Prop)
    (hr : ∀ c l, c ≤ N → (Region.ready md ops (mk c l)).all (fun i => (i == ic c && decide (c < N)) || (i == ia && !l) || (c == N && l)) = true)
    (hne : ∀ c l, c ≤ N → (c == N && l) = false → (Region.ready md ops (mk c l)).isEmpty = false)
    (h1 : ∀ c l, c < N → (mk c l).setIfInBounds (ic c) true = mk (c + 1) l) (ha : ∀ c, (mk c false).setIfInBounds ia true = mk c true)
    (s1 : ∀ c l a w, c < N → I c l a w → wpOp P ops Q (ic c) (fun a' w' => C w' ∧ I (c + 1) l a' w') a w)
    (sa : ∀ c a w, I c false a w → wpOp P ops Q ia (fun a' w' => C w' ∧ I c true a' w') a w)
    (fin : ∀ a w, I N true a w → wpHold P md ops Q C m (mk N true) a w) :
    ∀ n c l, c ≤ N → (N - c) + (1 - l.toNat) = n → ∀ a w, I c l a w → wpHold P md ops Q C (n + m) (mk c l) a w := by
  intro n
  induction n with
  | zero =>
    intro c l hc hn a w h
    obtain rfl : c = N := by omega
    cases l <;> simp at hn
    rw [Nat.zero_add]
    exact fin a w h
  | succ n ih =>
    intro c l hc hn a w h
    have hall := hr c l hc
    have hend : (c == N && l) = false := by
      cases l <;> simp at hn ⊢
      omega
    have hnn := hne c l hc hend
    rw [Nat.succ_add]
    refine ⟨fun e => (by rw [e] at hnn; cases hnn), fun i hi => ?_⟩
    have hk := List.all_eq_true.1 hall i hi
    rw [hend] at hk
    simp only [Bool.or_eq_true, Bool.and_eq_true, beq_iff_eq, Bool.not_eq_true', Bool.or_false, decide_eq_true_eq] at hk
    rcases hk with ⟨rfl, hlt⟩ | ⟨rfl, rfl⟩
    · exact wpOp_mono (fun a' w' h' => ⟨h'.1, by rw [h1 c l hlt]; exact ih (c + 1) l (by omega) (by omega) a' w' h'.2⟩) (s1 c l a w hlt h)
    · exact wpOp_mono (fun a' w' h' => ⟨h'.1, by rw [ha]; exact ih c true hc (by simp at hn ⊢; omega) a' w' h'.2⟩) (sa c a w h)
/-- A fraction, and a box. -/
structure OneJ (q1 : Rat) (w0 : World) (c : Nat) (l : Bool) (w : World) (s1 s3 : Value) : Prop where
  bl : Below w0.heap.size w0 w
  r1 : 1 ≤ c → RatIs w s1 q1
  al : l = true → ∃ b, s3 = .pointer (some ⟨b, 0, none⟩) ∧ BoxIs w b zTri 0 ∧ w0.heap.size ≤ b
set_option maxHeartbeats 16000000 in
set_option maxRecDepth 100000 in
set_option linter.unusedSimpArgs false in
theorem likeliest_any (l1 l2 : Sl) (qs xs : List Rat) (n J0 : Nat) (w : World) (h1 : LawIs w l1.val qs) (h2 : LawIs w l2.val xs) (e1 : qs.length = n) (e2 : xs.length = n) (hn1 : 1 ≤ n) (hn8 : n ≤ 1000) (r1 : ∀ i, i < n → RS qs[i]! J0) (r2 : ∀ i, i < n → RS xs[i]! J0) (hJ : J0 + J0 + 1 ≤ KK) :
    Calls Tryz.prog 88 #[.slice l1.a n l1.c, .slice l2.a n l2.c] w fun e w' => e = .returned (.int .i64 ((Blf.lk (fun j => qs[j]! * xs[j]!) n : Nat) : Int)) ∧ Below w.heap.size w w' := by
  have HQA := hide r1
  have HQB := hide r2
  have HJ := hide hJ
  have H00 : Hid (0 < n) := hn1
  have HQA0 := hide (r1 0 hn1)
  have HQB0 := hide (r2 0 hn1)
  have hc1 : n ≤ l1.c ∧ l1.c ≤ 9223372036854775807 := by
    obtain ⟨a, c, e, i1, i2, _⟩ := h1
    have e1 : l1.c = c := by injection e
    rw [e1]; exact ⟨by omega, i2⟩
  have hc2 : n ≤ l2.c ∧ l2.c ≤ 9223372036854775807 := by
    obtain ⟨a, c, e, i1, i2, _⟩ := h2
    have e1 : l2.c = c := by injection e
    rw [e1]; exact ⟨by omega, i2⟩
  obtain ⟨hc11, hc12⟩ := hc1
  obtain ⟨hc21, hc22⟩ := hc2
  obtain ⟨ba, oa, ea, hba, HA⟩ : ∃ b o, l1.a = some ⟨b, o, none⟩ ∧ b < w.heap.size ∧ Hid (∀ j, j < n → ∃ t : Tri, w.cell? ⟨b, o + j * 3, none⟩ = some (.bool t.s) ∧ w.cell? ⟨b, o + j * 3 + 1, none⟩ = some (.slice t.a1 t.n1 t.c1) ∧ w.cell? ⟨b, o + j * 3 + 2, none⟩ = some (.slice t.a2 t.n2 t.c2) ∧ RatIs w t.val qs[j]!) := h1.open e1 hn1
  obtain ⟨bb, ob, eb, hbb, HBq⟩ : ∃ b o, l2.a = some ⟨b, o, none⟩ ∧ b < w.heap.size ∧ Hid (∀ j, j < n → ∃ t : Tri, w.cell? ⟨b, o + j * 3, none⟩ = some (.bool t.s) ∧ w.cell? ⟨b, o + j * 3 + 1, none⟩ = some (.slice t.a1 t.n1 t.c1) ∧ w.cell? ⟨b, o + j * 3 + 2, none⟩ = some (.slice t.a2 t.n2 t.c2) ∧ RatIs w t.val xs[j]!) := h2.open e2 hn1
  have HBA := hide hba
  have HBB := hide hbb
  rw [ea, eb]
  obtain ⟨tA, ka0, ka1, ka2, ra⟩ := unhide HA 0 hn1
  obtain ⟨tB, kb0, kb1, kb2, rb⟩ := unhide HBq 0 hn1
  rw [Nat.zero_mul, Nat.add_zero] at ka0 ka1 ka2 kb0 kb1 kb2
  have HTA := hide ra
  have HTB := hide rb
  have HCC : Hid (∀ W, Below w.heap.size w W → (fun w' : World => (w'.cell? ⟨ba, oa, none⟩ = some (.bool tA.s) ∧ w'.cell? ⟨ba, oa + 1, none⟩ = some (.slice tA.a1 tA.n1 tA.c1) ∧ w'.cell? ⟨ba, oa + 2, none⟩ = some (.slice tA.a2 tA.n2 tA.c2)) ∧ (w'.cell? ⟨bb, ob, none⟩ = some (.bool tB.s) ∧ w'.cell? ⟨bb, ob + 1, none⟩ = some (.slice tB.a1 tB.n1 tB.c1) ∧ w'.cell? ⟨bb, ob + 2, none⟩ = some (.slice tB.a2 tB.n2 tB.c2))) W) := fun W hW => by
    refine ⟨⟨?_, ?_, ?_⟩, ?_, ?_, ?_⟩
    · rw [hW.cell (p := ⟨ba, oa, none⟩) hba]; exact ka0
    · rw [hW.cell (p := ⟨ba, oa + 1, none⟩) hba]; exact ka1
    · rw [hW.cell (p := ⟨ba, oa + 2, none⟩) hba]; exact ka2
    · rw [hW.cell (p := ⟨bb, ob, none⟩) hbb]; exact kb0
    · rw [hW.cell (p := ⟨bb, ob + 1, none⟩) hbb]; exact kb1
    · rw [hW.cell (p := ⟨bb, ob + 2, none⟩) hbb]; exact kb2
  obtain ⟨x, hx⟩ : ∃ x : Nat → Rat, (fun j => qs[j]! * xs[j]!) = x := ⟨_, rfl⟩
  have HXX : Hid (∀ j, qs[j]! * xs[j]! = x j) := fun j => by rw [← hx]
  rw [hx]
  have HXR : Hid (∀ j, j < n → RS (x j) (J0 + J0)) := fun j hj => by rw [← unhide HXX]; exact (r1 j hj).mul (r2 j hj)
  clear h1 h2 e1 e2 r1 r2 hJ ea eb hba hbb ka0 ka1 ka2 kb0 kb1 kb2 ra rb hx hn1
  go_enter Tryz.func88, Tryz.ntmps88
  go_wp2_with fail
  refine wp_region_hold (fun w' : World => (w'.cell? ⟨ba, oa, none⟩ = some (.bool tA.s) ∧ w'.cell? ⟨ba, oa + 1, none⟩ = some (.slice tA.a1 tA.n1 tA.c1) ∧ w'.cell? ⟨ba, oa + 2, none⟩ = some (.slice tA.a2 tA.n2 tA.c2)) ∧ (w'.cell? ⟨bb, ob, none⟩ = some (.bool tB.s) ∧ w'.cell? ⟨bb, ob + 1, none⟩ = some (.slice tB.a1 tB.n1 tB.c1) ∧ w'.cell? ⟨bb, ob + 2, none⟩ = some (.slice tB.a2 tB.n2 tB.c2))) (by kernel_rfl) ?_
  have bd0 : Below w.heap.size w w.drew := (Below.refl _ _).drew
  obtain ⟨Wx, hWx⟩ : ∃ W, w.drew = W := ⟨_, rfl⟩
  rw [hWx] at bd0 ⊢
  have hC0 : (fun w' : World => (w'.cell? ⟨ba, oa, none⟩ = some (.bool tA.s) ∧ w'.cell? ⟨ba, oa + 1, none⟩ = some (.slice tA.a1 tA.n1 tA.c1) ∧ w'.cell? ⟨ba, oa + 2, none⟩ = some (.slice tA.a2 tA.n2 tA.c2)) ∧ (w'.cell? ⟨bb, ob, none⟩ = some (.bool tB.s) ∧ w'.cell? ⟨bb, ob + 1, none⟩ = some (.slice tB.a1 tB.n1 tB.c1) ∧ w'.cell? ⟨bb, ob + 2, none⟩ = some (.slice tB.a2 tB.n2 tB.c2))) Wx := unhide HCC _ bd0
  refine wpHold_take (i := 0) (v := ?_) rfl (by kernel_rfl) (by kernel_rfl) (by kernel_rfl) (fun _ _ _ h => h) (Or.inl ⟨by rfl, ?_⟩) hC0 ?_
  rotate_left
  · intro w hSw; clear hSw; go_simp; (try with_reducible rfl)
  (try simp only [List.getElem_toArray, List.getElem_cons_succ, List.getElem_cons_zero])
  (try simp only [Act.put, List.setIfInBounds_toArray, List.set_cons_zero, List.set_cons_succ])
  refine wpHold_take (i := 1) (v := ?_) rfl (by kernel_rfl) (by kernel_rfl) (by kernel_rfl) (fun _ _ _ h => h) (Or.inl ⟨by rfl, ?_⟩) hC0 ?_
  rotate_left
  · intro w hSw; clear hSw; have h00 : 0 < n := unhide H00; go_simp; (try with_reducible rfl)
  (try simp only [List.getElem_toArray, List.getElem_cons_succ, List.getElem_cons_zero])
  (try simp only [Act.put, List.setIfInBounds_toArray, List.set_cons_zero, List.set_cons_succ])
  refine wpHold_take (i := 2) (v := ?_) rfl (by kernel_rfl) (by kernel_rfl) (by kernel_rfl) (fun _ _ _ h => h) (Or.inl ⟨by rfl, ?_⟩) hC0 ?_
  rotate_left
  · intro w hSw; (try dsimp only at hSw); obtain ⟨⟨u0, u1, u2⟩, ⟨u3, u4, u5⟩⟩ := hSw; go_simp; (try with_reducible rfl)
  (try simp only [List.getElem_toArray, List.getElem_cons_succ, List.getElem_cons_zero])
  (try simp only [Act.put, List.setIfInBounds_toArray, List.set_cons_zero, List.set_cons_succ])
  refine wpHold_take (i := 3) (v := ?_) rfl (by kernel_rfl) (by kernel_rfl) (by kernel_rfl) (fun _ _ _ h => h) (Or.inl ⟨by rfl, ?_⟩) hC0 ?_
  rotate_left
  · intro w hSw; clear hSw; go_simp; (try with_reducible rfl)
  (try simp only [List.getElem_toArray, List.getElem_cons_succ, List.getElem_cons_zero])
  (try simp only [Act.put, List.setIfInBounds_toArray, List.set_cons_zero, List.set_cons_succ])
  refine wpHold_take (i := 4) (v := ?_) rfl (by kernel_rfl) (by kernel_rfl) (by kernel_rfl) (fun _ _ _ h => h) (Or.inl ⟨by rfl, ?_⟩) hC0 ?_
  rotate_left
  · intro w hSw; clear hSw; have h00 : 0 < n := unhide H00; go_simp; (try with_reducible rfl)
  (try simp only [List.getElem_toArray, List.getElem_cons_succ, List.getElem_cons_zero])
  (try simp only [Act.put, List.setIfInBounds_toArray, List.set_cons_zero, List.set_cons_succ])
  refine wpHold_take (i := 5) (v := ?_) rfl (by kernel_rfl) (by kernel_rfl) (by kernel_rfl) (fun _ _ _ h => h) (Or.inl ⟨by rfl, ?_⟩) hC0 ?_
  rotate_left
  · intro w hSw; (try dsimp only at hSw); obtain ⟨⟨u0, u1, u2⟩, ⟨u3, u4, u5⟩⟩ := hSw; go_simp; (try with_reducible rfl)
  (try simp only [List.getElem_toArray, List.getElem_cons_succ, List.getElem_cons_zero])
  (try simp only [Act.put, List.setIfInBounds_toArray, List.set_cons_zero, List.set_cons_succ])
  refine wpHold_listed (n := 4) (L' := (fun nc nl => #[true, true, true, true, true, true, decide (1 ≤ nc), nl, false, false]) 0 false) (by kernel_rfl) (by kernel_rfl) ?_
  refine wpHold_name (fun a0 ha0 => ?_)
  refine chain_one_any 1 (fun nc nl => #[true, true, true, true, true, true, decide (1 ≤ nc), nl, false, false]) (fun _ => 6) 7 2 (fun nc nl na W => ∃ s1 s3, na = (a0.put (some 15) s1).put (some 6) s3 ∧ OneJ (qs[0]! * xs[0]!) Wx nc nl W s1 s3) ?_ ?_ ?_ (fun c => rfl) ?_ ?_ ?_ 2 0 false (by omega) (by rfl) _ _ ⟨undef, undef, by subst ha0; rfl, Below.refl _ _, fun h => absurd h (by decide), fun h => by cases h⟩
  · clear ha0
    intro nc nl hnc
    match nc, hnc with
    | 0, _ => cases nl <;> (show (_ : Bool) = _; kernel_rfl)
    | 1, _ => cases nl <;> (show (_ : Bool) = _; kernel_rfl)
  · clear ha0
    intro nc nl hnc
    match nc, hnc with
    | 0, _ => cases nl <;> (intro _; show (_ : Bool) = _; kernel_rfl)
    | 1, _ => cases nl <;> (intro h; first | (show (_ : Bool) = _; kernel_rfl) | exact absurd h (by decide))
  · clear ha0
    intro nc nl hnc
    match nc, hnc with
    | 0, _ => rfl
  · rintro nc nl na wv hnc ⟨s1, s3, rfl, J⟩
    obtain rfl : nc = 0 := by omega
    subst ha0
    refine wpOp_step rfl (fun K hK => ?_)
    (try simp only [Act.put, List.setIfInBounds_toArray, List.set_cons_zero, List.set_cons_succ] at hK ⊢)
    (try simp only [List.getElem_toArray, List.getElem_cons_succ, List.getElem_cons_zero])
    go_simp
    refine (mulR_any tA.val tB.val _ _ wv ((unhide HTA).below (below_step bd0 J.bl)) ((unhide HTB).below (below_step bd0 J.bl)) J0 (unhide HQA0) (unhide HQB0) (unhide HJ)).mono ?_
    rintro e wz ⟨v, rfl, hv, hb⟩
    exact hK _ _ ⟨unhide HCC _ (below_step bd0 (below_step J.bl hb)), v, s3, rfl, below_step J.bl hb, fun _ => hv, fun h => by
      obtain ⟨b, e1, e2, e3⟩ := J.al h
      exact ⟨b, e1, e2.keep hb, e3⟩⟩
  · rintro nc na wv ⟨s1, s3, rfl, J⟩
    subst ha0
    refine wpOp_step rfl (fun K hK => ?_)
    (try simp only [Act.put, List.setIfInBounds_toArray, List.set_cons_zero, List.set_cons_succ] at hK ⊢)
    (try simp only [List.getElem_toArray, List.getElem_cons_succ, List.getElem_cons_zero])
    go_simp
    have hb := alloc_below wv (.cells #[.bool false, .slice none 0 0, .slice none 0 0] 26)
    exact hK _ _ ⟨unhide HCC _ (below_step bd0 (below_step J.bl hb)), s1, .pointer (some ⟨wv.heap.size, 0, none⟩), rfl, below_step J.bl hb, fun h => (J.r1 h).below hb, fun _ => ⟨wv.heap.size, rfl, BoxIs.new (t := zTri) (rat_zero _), J.bl.size⟩⟩
  · rintro na wv ⟨s1, s3, rfl, J⟩
    subst ha0
    obtain ⟨bG, rfl, B10, e10⟩ := J.al rfl
    obtain ⟨tg0, rfl, r0⟩ := tri_of (J.r1 (by decide))
    simp only [Tri.val]
    (try simp only [Act.put, List.setIfInBounds_toArray, List.set_cons_zero, List.set_cons_succ])
    have ⟨l0, l1, l2⟩ := B10.free
    have ⟨k0, k1, k2⟩ := B10.cells _ (Below.refl _ _)
    have NB := B10.set r0
    have e10' : w.heap.size ≤ bG := Nat.le_trans bd0.size e10
    have YB := (((below_step bd0 J.bl).setCell (p := ⟨bG, 0, none⟩) e10' (.bool tg0.s)).setCell (p := ⟨bG, 1, none⟩) e10' (.slice tg0.a1 tg0.n1 tg0.c1)).setCell (p := ⟨bG, 2, none⟩) e10' (.slice tg0.a2 tg0.n2 tg0.c2)
    have HG_bG := hide e10'
    have hCm : (fun w' : World => (w'.cell? ⟨ba, oa, none⟩ = some (.bool tA.s) ∧ w'.cell? ⟨ba, oa + 1, none⟩ = some (.slice tA.a1 tA.n1 tA.c1) ∧ w'.cell? ⟨ba, oa + 2, none⟩ = some (.slice tA.a2 tA.n2 tA.c2)) ∧ (w'.cell? ⟨bb, ob, none⟩ = some (.bool tB.s) ∧ w'.cell? ⟨bb, ob + 1, none⟩ = some (.slice tB.a1 tB.n1 tB.c1) ∧ w'.cell? ⟨bb, ob + 2, none⟩ = some (.slice tB.a2 tB.n2 tB.c2))) wv := unhide HCC _ (below_step bd0 J.bl)
    have hCn : (fun w' : World => (w'.cell? ⟨ba, oa, none⟩ = some (.bool tA.s) ∧ w'.cell? ⟨ba, oa + 1, none⟩ = some (.slice tA.a1 tA.n1 tA.c1) ∧ w'.cell? ⟨ba, oa + 2, none⟩ = some (.slice tA.a2 tA.n2 tA.c2)) ∧ (w'.cell? ⟨bb, ob, none⟩ = some (.bool tB.s) ∧ w'.cell? ⟨bb, ob + 1, none⟩ = some (.slice tB.a1 tB.n1 tB.c1) ∧ w'.cell? ⟨bb, ob + 2, none⟩ = some (.slice tB.a2 tB.n2 tB.c2))) _ := unhide HCC _ YB
    obtain ⟨WbG, hWy⟩ : ∃ W, ((wv.setCell ⟨bG, 0, none⟩ (.bool tg0.s)).setCell ⟨bG, 1, none⟩ (.slice tg0.a1 tg0.n1 tg0.c1)).setCell ⟨bG, 2, none⟩ (.slice tg0.a2 tg0.n2 tg0.c2) = W := ⟨_, rfl⟩
    rw [hWy] at NB YB hCn
    have HX_bG := hide NB
    have HY_bG := hide YB
    clear J B10 r0 hC0 YB NB e10'
    refine wpHold_one (k := 8) (by kernel_rfl) rfl (fun K hK => ?_)
    (try simp only [List.getElem_toArray, List.getElem_cons_succ, List.getElem_cons_zero])
    go_simp
    refine hK.out _ _ hCm ?_
    clear hK K
    (try simp only [Act.put, List.setIfInBounds_toArray, List.set_cons_zero, List.set_cons_succ])
    refine wpHold_one (k := 9) (by kernel_rfl) rfl (fun K hK => ?_)
    (try simp only [List.getElem_toArray, List.getElem_cons_succ, List.getElem_cons_zero])
    go_simp
    refine hK.out _ _ hCn ?_
    clear hK K
    (try simp only [Act.put, List.setIfInBounds_toArray, List.set_cons_zero, List.set_cons_succ])
    refine wpHold_done (by kernel_rfl) ?_ _
    clear hCm
    clear hCn l0 l1 l2 k0 k1 k2 hWy e10 bd0 hWx
    have HXG : Hid (BoxIs WbG bG tg0 (x 0)) := by show BoxIs WbG bG tg0 (x 0); rw [← unhide HXX]; exact unhide HX_bG
    clear HX_bG HCC HTA HTB
    go_wp2_with fail
    go_loopw [5, 18] (fun vb vi wr => ∃ (i : Nat) (tg : Tri), vb = .int .i64 ((Blf.lk x i : Nat) : Int) ∧ vi = .int .i64 (i : Int) ∧ i ≤ n ∧ BoxIs wr bG tg (x (Blf.lk x i)) ∧ Below w.heap.size w wr) (fun _ vi _ => n - (intOf vi).toNat)
    case atStart => exact ⟨0, tg0, rfl, rfl, Nat.zero_le _, unhide HXG, unhide HY_bG⟩
    case round =>
      obtain ⟨j, tg, rfl, rfl, hj, T, hb⟩ := hrel
      clear HXG HY_bG
      have HT := hide T
      have HB := hide hb
      clear T hb
      by_cases hlt : j < n
      · have j1 : (j : Int) < (n : Int) := by omega
        have j0 : (0 : Int) ≤ (j : Int) := by omega
        obtain ⟨ta, ka0, ka1, ka2, ra⟩ := unhide HA j hlt
        obtain ⟨tb, kb0, kb1, kb2, rb⟩ := unhide HBq j hlt
        have HTA := hide (ra.below (unhide HB))
        have HTB := hide (rb.below (unhide HB))
        have HCC : Hid (∀ W, Below wr.heap.size wr W → (fun w' : World => (w'.cell? ⟨ba, oa + j * 3, none⟩ = some (.bool ta.s) ∧ w'.cell? ⟨ba, oa + j * 3 + 1, none⟩ = some (.slice ta.a1 ta.n1 ta.c1) ∧ w'.cell? ⟨ba, oa + j * 3 + 2, none⟩ = some (.slice ta.a2 ta.n2 ta.c2)) ∧ (w'.cell? ⟨bb, ob + j * 3, none⟩ = some (.bool tb.s) ∧ w'.cell? ⟨bb, ob + j * 3 + 1, none⟩ = some (.slice tb.a1 tb.n1 tb.c1) ∧ w'.cell? ⟨bb, ob + j * 3 + 2, none⟩ = some (.slice tb.a2 tb.n2 tb.c2))) W) := fun W hW' => by
          have hW := below_step (unhide HB) hW'
          refine ⟨⟨?_, ?_, ?_⟩, ?_, ?_, ?_⟩
          · rw [hW.cell (p := ⟨ba, oa + j * 3, none⟩) (unhide HBA)]; exact ka0
          · rw [hW.cell (p := ⟨ba, oa + j * 3 + 1, none⟩) (unhide HBA)]; exact ka1
          · rw [hW.cell (p := ⟨ba, oa + j * 3 + 2, none⟩) (unhide HBA)]; exact ka2
          · rw [hW.cell (p := ⟨bb, ob + j * 3, none⟩) (unhide HBB)]; exact kb0
          · rw [hW.cell (p := ⟨bb, ob + j * 3 + 1, none⟩) (unhide HBB)]; exact kb1
          · rw [hW.cell (p := ⟨bb, ob + j * 3 + 2, none⟩) (unhide HBB)]; exact kb2
        clear ka0 ka1 ka2 kb0 kb1 kb2 ra rb
        go_wp2_with fail
        refine wp_region_hold (fun w' : World => (w'.cell? ⟨ba, oa + j * 3, none⟩ = some (.bool ta.s) ∧ w'.cell? ⟨ba, oa + j * 3 + 1, none⟩ = some (.slice ta.a1 ta.n1 ta.c1) ∧ w'.cell? ⟨ba, oa + j * 3 + 2, none⟩ = some (.slice ta.a2 ta.n2 ta.c2)) ∧ (w'.cell? ⟨bb, ob + j * 3, none⟩ = some (.bool tb.s) ∧ w'.cell? ⟨bb, ob + j * 3 + 1, none⟩ = some (.slice tb.a1 tb.n1 tb.c1) ∧ w'.cell? ⟨bb, ob + j * 3 + 2, none⟩ = some (.slice tb.a2 tb.n2 tb.c2))) (by kernel_rfl) ?_
        have bd0 : Below wr.heap.size wr wr.drew := (Below.refl _ _).drew
        obtain ⟨Wx, hWx⟩ : ∃ W, wr.drew = W := ⟨_, rfl⟩
        rw [hWx] at bd0 ⊢
        have hC0 : (fun w' : World => (w'.cell? ⟨ba, oa + j * 3, none⟩ = some (.bool ta.s) ∧ w'.cell? ⟨ba, oa + j * 3 + 1, none⟩ = some (.slice ta.a1 ta.n1 ta.c1) ∧ w'.cell? ⟨ba, oa + j * 3 + 2, none⟩ = some (.slice ta.a2 ta.n2 ta.c2)) ∧ (w'.cell? ⟨bb, ob + j * 3, none⟩ = some (.bool tb.s) ∧ w'.cell? ⟨bb, ob + j * 3 + 1, none⟩ = some (.slice tb.a1 tb.n1 tb.c1) ∧ w'.cell? ⟨bb, ob + j * 3 + 2, none⟩ = some (.slice tb.a2 tb.n2 tb.c2))) Wx := unhide HCC _ bd0
        refine wpHold_take (i := 0) (v := ?_) rfl (by kernel_rfl) (by kernel_rfl) (by kernel_rfl) (fun _ _ _ h => h) (Or.inl ⟨by rfl, ?_⟩) hC0 ?_
        rotate_left
        · intro w hSw; clear hSw; go_simp; (try with_reducible rfl)
        (try simp only [List.getElem_toArray, List.getElem_cons_succ, List.getElem_cons_zero])
        (try simp only [Act.put, List.setIfInBounds_toArray, List.set_cons_zero, List.set_cons_succ])
        refine wpHold_take (i := 1) (v := ?_) rfl (by kernel_rfl) (by kernel_rfl) (by kernel_rfl) (fun _ _ _ h => h) (Or.inl ⟨by rfl, ?_⟩) hC0 ?_
        rotate_left
        · intro w hSw; clear hSw; go_simp; (try with_reducible rfl)
        (try simp only [List.getElem_toArray, List.getElem_cons_succ, List.getElem_cons_zero])
        (try simp only [Act.put, List.setIfInBounds_toArray, List.set_cons_zero, List.set_cons_succ])
        refine wpHold_take (i := 2) (v := ?_) rfl (by kernel_rfl) (by kernel_rfl) (by kernel_rfl) (fun _ _ _ h => h) (Or.inl ⟨by rfl, ?_⟩) hC0 ?_
        rotate_left
        · intro w hSw; clear hSw; go_simp; (try with_reducible rfl)
        (try simp only [List.getElem_toArray, List.getElem_cons_succ, List.getElem_cons_zero])
        (try simp only [Act.put, List.setIfInBounds_toArray, List.set_cons_zero, List.set_cons_succ])
        refine wpHold_take (i := 3) (v := ?_) rfl (by kernel_rfl) (by kernel_rfl) (by kernel_rfl) (fun _ _ _ h => h) (Or.inl ⟨by rfl, ?_⟩) hC0 ?_
        rotate_left
        · intro w hSw; (try dsimp only at hSw); obtain ⟨⟨u0, u1, u2⟩, ⟨u3, u4, u5⟩⟩ := hSw; go_simp; (try with_reducible rfl)
        (try simp only [List.getElem_toArray, List.getElem_cons_succ, List.getElem_cons_zero])
        (try simp only [Act.put, List.setIfInBounds_toArray, List.set_cons_zero, List.set_cons_succ])
        refine wpHold_take (i := 4) (v := ?_) rfl (by kernel_rfl) (by kernel_rfl) (by kernel_rfl) (fun _ _ _ h => h) (Or.inl ⟨by rfl, ?_⟩) hC0 ?_
        rotate_left
        · intro w hSw; clear hSw; go_simp; (try with_reducible rfl)
        (try simp only [List.getElem_toArray, List.getElem_cons_succ, List.getElem_cons_zero])
        (try simp only [Act.put, List.setIfInBounds_toArray, List.set_cons_zero, List.set_cons_succ])
        refine wpHold_take (i := 5) (v := ?_) rfl (by kernel_rfl) (by kernel_rfl) (by kernel_rfl) (fun _ _ _ h => h) (Or.inl ⟨by rfl, ?_⟩) hC0 ?_
        rotate_left
        · intro w hSw; clear hSw; go_simp; (try with_reducible rfl)
        (try simp only [List.getElem_toArray, List.getElem_cons_succ, List.getElem_cons_zero])
        (try simp only [Act.put, List.setIfInBounds_toArray, List.set_cons_zero, List.set_cons_succ])
        refine wpHold_take (i := 6) (v := ?_) rfl (by kernel_rfl) (by kernel_rfl) (by kernel_rfl) (fun _ _ _ h => h) (Or.inl ⟨by rfl, ?_⟩) hC0 ?_
        rotate_left
        · intro w hSw; clear hSw; go_simp; (try with_reducible rfl)
        (try simp only [List.getElem_toArray, List.getElem_cons_succ, List.getElem_cons_zero])
        (try simp only [Act.put, List.setIfInBounds_toArray, List.set_cons_zero, List.set_cons_succ])
        refine wpHold_take (i := 7) (v := ?_) rfl (by kernel_rfl) (by kernel_rfl) (by kernel_rfl) (fun _ _ _ h => h) (Or.inl ⟨by rfl, ?_⟩) hC0 ?_
        rotate_left
        · intro w hSw; (try dsimp only at hSw); obtain ⟨⟨u0, u1, u2⟩, ⟨u3, u4, u5⟩⟩ := hSw; go_simp; (try with_reducible rfl)
        (try simp only [List.getElem_toArray, List.getElem_cons_succ, List.getElem_cons_zero])
        (try simp only [Act.put, List.setIfInBounds_toArray, List.set_cons_zero, List.set_cons_succ])
        refine wpHold_listed (n := 3) (L' := (fun nc nl => #[true, true, true, true, true, true, true, true, decide (1 ≤ nc), nl, false]) 0 false) (by kernel_rfl) (by kernel_rfl) ?_
        refine wpHold_name (fun a0 ha0 => ?_)
        refine chain_one_any 1 (fun nc nl => #[true, true, true, true, true, true, true, true, decide (1 ≤ nc), nl, false]) (fun _ => 8) 9 1 (fun nc nl na W => ∃ s1 s3, na = (a0.put (some 29) s1).put (some 8) s3 ∧ OneJ (qs[j]! * xs[j]!) Wx nc nl W s1 s3) ?_ ?_ ?_ (fun c => rfl) ?_ ?_ ?_ 2 0 false (by omega) (by rfl) _ _ ⟨u29, u8, by subst ha0; rfl, Below.refl _ _, fun h => absurd h (by decide), fun h => by cases h⟩
        · clear ha0
          intro nc nl hnc
          match nc, hnc with
          | 0, _ => cases nl <;> (show (_ : Bool) = _; kernel_rfl)
          | 1, _ => cases nl <;> (show (_ : Bool) = _; kernel_rfl)
        · clear ha0
          intro nc nl hnc
          match nc, hnc with
          | 0, _ => cases nl <;> (intro _; show (_ : Bool) = _; kernel_rfl)
          | 1, _ => cases nl <;> (intro h; first | (show (_ : Bool) = _; kernel_rfl) | exact absurd h (by decide))
        · clear ha0
          intro nc nl hnc
          match nc, hnc with
          | 0, _ => rfl
        · rintro nc nl na wv hnc ⟨s1, s3, rfl, J⟩
          obtain rfl : nc = 0 := by omega
          subst ha0
          refine wpOp_step rfl (fun K hK => ?_)
          (try simp only [Act.put, List.setIfInBounds_toArray, List.set_cons_zero, List.set_cons_succ] at hK ⊢)
          (try simp only [List.getElem_toArray, List.getElem_cons_succ, List.getElem_cons_zero])
          go_simp
          refine (mulR_any ta.val tb.val _ _ wv ((unhide HTA).below (below_step bd0 J.bl)) ((unhide HTB).below (below_step bd0 J.bl)) J0 (unhide HQA j hlt) (unhide HQB j hlt) (unhide HJ)).mono ?_
          rintro e wz ⟨v, rfl, hv, hb⟩
          exact hK _ _ ⟨unhide HCC _ (below_step bd0 (below_step J.bl hb)), v, s3, rfl, below_step J.bl hb, fun _ => hv, fun h => by
            obtain ⟨b, e1, e2, e3⟩ := J.al h
            exact ⟨b, e1, e2.keep hb, e3⟩⟩
        · rintro nc na wv ⟨s1, s3, rfl, J⟩
          subst ha0
          refine wpOp_step rfl (fun K hK => ?_)
          (try simp only [Act.put, List.setIfInBounds_toArray, List.set_cons_zero, List.set_cons_succ] at hK ⊢)
          (try simp only [List.getElem_toArray, List.getElem_cons_succ, List.getElem_cons_zero])
          go_simp
          have hb := alloc_below wv (.cells #[.bool false, .slice none 0 0, .slice none 0 0] 26)
          exact hK _ _ ⟨unhide HCC _ (below_step bd0 (below_step J.bl hb)), s1, .pointer (some ⟨wv.heap.size, 0, none⟩), rfl, below_step J.bl hb, fun h => (J.r1 h).below hb, fun _ => ⟨wv.heap.size, rfl, BoxIs.new (t := zTri) (rat_zero _), J.bl.size⟩⟩
        · rintro na wv ⟨s1, s3, rfl, J⟩
          subst ha0
          obtain ⟨gs, rfl, B10, e10⟩ := J.al rfl
          obtain ⟨ts, rfl, r0⟩ := tri_of (J.r1 (by decide))
          simp only [Tri.val]
          (try simp only [Act.put, List.setIfInBounds_toArray, List.set_cons_zero, List.set_cons_succ])
          have ⟨l0, l1, l2⟩ := B10.free
          have ⟨k0, k1, k2⟩ := B10.cells _ (Below.refl _ _)
          have NB := B10.set r0
          have e10' : wr.heap.size ≤ gs := Nat.le_trans bd0.size e10
          have YB := (((below_step bd0 J.bl).setCell (p := ⟨gs, 0, none⟩) e10' (.bool ts.s)).setCell (p := ⟨gs, 1, none⟩) e10' (.slice ts.a1 ts.n1 ts.c1)).setCell (p := ⟨gs, 2, none⟩) e10' (.slice ts.a2 ts.n2 ts.c2)
          have HG_gs := hide e10'
          have hCn : (fun w' : World => (w'.cell? ⟨ba, oa + j * 3, none⟩ = some (.bool ta.s) ∧ w'.cell? ⟨ba, oa + j * 3 + 1, none⟩ = some (.slice ta.a1 ta.n1 ta.c1) ∧ w'.cell? ⟨ba, oa + j * 3 + 2, none⟩ = some (.slice ta.a2 ta.n2 ta.c2)) ∧ (w'.cell? ⟨bb, ob + j * 3, none⟩ = some (.bool tb.s) ∧ w'.cell? ⟨bb, ob + j * 3 + 1, none⟩ = some (.slice tb.a1 tb.n1 tb.c1) ∧ w'.cell? ⟨bb, ob + j * 3 + 2, none⟩ = some (.slice tb.a2 tb.n2 tb.c2))) _ := unhide HCC _ YB
          obtain ⟨Wgs, hWy⟩ : ∃ W, ((wv.setCell ⟨gs, 0, none⟩ (.bool ts.s)).setCell ⟨gs, 1, none⟩ (.slice ts.a1 ts.n1 ts.c1)).setCell ⟨gs, 2, none⟩ (.slice ts.a2 ts.n2 ts.c2) = W := ⟨_, rfl⟩
          rw [hWy] at NB YB hCn
          have HX_gs := hide NB
          have HY_gs := hide YB
          clear J B10 r0 hC0 YB NB e10'
          refine wpHold_one (k := 10) (by kernel_rfl) rfl (fun K hK => ?_)
          (try simp only [List.getElem_toArray, List.getElem_cons_succ, List.getElem_cons_zero])
          go_simp
          refine hK.out _ _ hCn ?_
          clear hK K
          (try simp only [Act.put, List.setIfInBounds_toArray, List.set_cons_zero, List.set_cons_succ])
          refine wpHold_done (by kernel_rfl) ?_ _
          clear hCn l0 l1 l2 k0 k1 k2 hWy e10 bd0 hWx
          have HXS3 : Hid (BoxIs Wgs gs ts (x j)) := by show BoxIs Wgs gs ts (x j); rw [← unhide HXX]; exact unhide HX_gs
          have HT3 := hide ((unhide HT).keep (unhide HY_gs))
          have HB3 := hide (below_step (unhide HB) (unhide HY_gs))
          have ⟨z0, z1, z2⟩ := (unhide HXS3).cells _ (Below.refl _ _)
          have ⟨g0, g1, g2⟩ := (unhide HT3).cells _ (Below.refl _ _)
          have hkl : Blf.lk x j < n := by
            by_cases h : 0 < j
            · exact Nat.lt_trans (Blf.lk_lt h) hlt
            · obtain rfl : j = 0 := by omega
              exact hlt
          have HCM := hide (cmpR_all ts.val tg.val (x j) (x (Blf.lk x j)) Wgs (unhide HXS3).2 (unhide HT3).2 (J0 + J0) (unhide HXR j hlt) (unhide HXR _ hkl) (by have := unhide HJ; omega))
          have HLK : Hid (Blf.lk x (j + 1) = if x (Blf.lk x j) < x j then j else Blf.lk x j) := rfl
          obtain ⟨kb, hkb⟩ : ∃ k, Blf.lk x j = k := ⟨_, rfl⟩
          rw [hkb] at HCM HLK HT3
          have HKB := hide hkb
          rw [hkb]
          clear HCC HTA HTB HX_gs HY_gs HG_gs HT hkl hkb
          by_cases hc : x kb < x j
          · rw [cmpv_gt hc] at HCM
            have HS4 : Hid (Blf.lk x (j + 1) = j) := by show _ = j; rw [unhide HLK, if_pos hc]
            clear hc
            go_wp2_with fail
            refine (unhide HCM).mono ?_
            rintro e W4 ⟨rfl, hb4⟩
            have HT4 := hide ((unhide HT3).keep hb4)
            have HXS := hide ((unhide HXS3).keep hb4)
            have HB4 := hide (below_step (unhide HB3) hb4)
            have HGG := HG_bG
            have HC7 : Hid (∀ W, Below W4.heap.size W4 W → (fun w' : World => (w'.cell? ⟨gs, 0, none⟩ = some (.bool ts.s) ∧ w'.cell? ⟨gs, 1, none⟩ = some (.slice ts.a1 ts.n1 ts.c1) ∧ w'.cell? ⟨gs, 2, none⟩ = some (.slice ts.a2 ts.n2 ts.c2)) ∧ (w'.cell? ⟨bG, 0, none⟩ = some (.bool tg.s) ∧ w'.cell? ⟨bG, 1, none⟩ = some (.slice tg.a1 tg.n1 tg.c1) ∧ w'.cell? ⟨bG, 2, none⟩ = some (.slice tg.a2 tg.n2 tg.c2))) W) := fun W hW => ⟨(unhide HXS).cells W hW, (unhide HT4).cells W hW⟩
            clear hb4 HCM HT3 HXS3 z0 z1 z2 g0 g1 g2
            go_wp2_with fail
            refine wp_region_till (fun w' : World => (w'.cell? ⟨gs, 0, none⟩ = some (.bool ts.s) ∧ w'.cell? ⟨gs, 1, none⟩ = some (.slice ts.a1 ts.n1 ts.c1) ∧ w'.cell? ⟨gs, 2, none⟩ = some (.slice ts.a2 ts.n2 ts.c2)) ∧ (w'.cell? ⟨bG, 0, none⟩ = some (.bool tg.s) ∧ w'.cell? ⟨bG, 1, none⟩ = some (.slice tg.a1 tg.n1 tg.c1) ∧ w'.cell? ⟨bG, 2, none⟩ = some (.slice tg.a2 tg.n2 tg.c2))) 3 (by kernel_rfl) ?_
            have bd0 : Below W4.heap.size W4 W4.drew := (Below.refl _ _).drew
            obtain ⟨W4d, hW4d⟩ : ∃ W, W4.drew = W := ⟨_, rfl⟩
            rw [hW4d] at bd0 ⊢
            have hC0 : (fun w' : World => (w'.cell? ⟨gs, 0, none⟩ = some (.bool ts.s) ∧ w'.cell? ⟨gs, 1, none⟩ = some (.slice ts.a1 ts.n1 ts.c1) ∧ w'.cell? ⟨gs, 2, none⟩ = some (.slice ts.a2 ts.n2 ts.c2)) ∧ (w'.cell? ⟨bG, 0, none⟩ = some (.bool tg.s) ∧ w'.cell? ⟨bG, 1, none⟩ = some (.slice tg.a1 tg.n1 tg.c1) ∧ w'.cell? ⟨bG, 2, none⟩ = some (.slice tg.a2 tg.n2 tg.c2))) W4d := unhide HC7 _ bd0
            refine wpTill_pure (i := 0) (v := ?_) rfl (by kernel_rfl) (by kernel_rfl) (by kernel_rfl) (by kernel_rfl) (fun _ _ _ h => h) (Or.inl ⟨by rfl, ?_⟩) (fun _ => hC0) ?_
            rotate_left
            · intro w hSw; clear hSw; go_simp; (try with_reducible rfl)
            (try simp only [List.getElem_toArray, List.getElem_cons_succ, List.getElem_cons_zero])
            (try simp only [Act.put, List.setIfInBounds_toArray, List.set_cons_zero, List.set_cons_succ])
            refine wpTill_take (i := 1) (v := ?_) rfl (by kernel_rfl) (by kernel_rfl) (by kernel_rfl) (by kernel_rfl) (by kernel_rfl) (by kernel_rfl) (fun _ _ _ h => h) (Or.inl ⟨by rfl, ?_⟩) hC0 ?_
            rotate_left
            · intro w hSw; (try dsimp only at hSw); obtain ⟨⟨u0, u1, u2⟩, ⟨u3, u4, u5⟩⟩ := hSw; go_simp; (try with_reducible rfl)
            (try simp only [List.getElem_toArray, List.getElem_cons_succ, List.getElem_cons_zero])
            (try simp only [Act.put, List.setIfInBounds_toArray, List.set_cons_zero, List.set_cons_succ])
            refine wpTill_pure (i := 2) (v := ?_) rfl (by kernel_rfl) (by kernel_rfl) (by kernel_rfl) (by kernel_rfl) (fun _ _ _ h => h) (Or.inl ⟨by rfl, ?_⟩) (fun _ => hC0) ?_
            rotate_left
            · intro w hSw; clear hSw; go_simp; (try with_reducible rfl)
            (try simp only [List.getElem_toArray, List.getElem_cons_succ, List.getElem_cons_zero])
            (try simp only [Act.put, List.setIfInBounds_toArray, List.set_cons_zero, List.set_cons_succ])
            have T9 := (unhide HT4).keep bd0
            have ⟨l0, l1, l2⟩ := T9.free
            have ⟨_, y0, y1, y2⟩ := hC0
            have FIN := T9.set ((unhide HXS).2.below bd0)
            have FB := (((below_step (unhide HB4) bd0).setCell (p := ⟨bG, 0, none⟩) (unhide HGG) (.bool ts.s)).setCell (p := ⟨bG, 1, none⟩) (unhide HGG) (.slice ts.a1 ts.n1 ts.c1)).setCell (p := ⟨bG, 2, none⟩) (unhide HGG) (.slice ts.a2 ts.n2 ts.c2)
            obtain ⟨W9, hW9⟩ : ∃ W, ((W4d.setCell ⟨bG, 0, none⟩ (.bool ts.s)).setCell ⟨bG, 1, none⟩ (.slice ts.a1 ts.n1 ts.c1)).setCell ⟨bG, 2, none⟩ (.slice ts.a2 ts.n2 ts.c2) = W := ⟨_, rfl⟩
            rw [hW9] at FIN FB
            have HFIN := hide FIN
            have HFB := hide FB
            clear T9 FIN FB
            refine wpTill_one (k := 3) (by kernel_rfl) rfl (fun K hK => ?_)
            (try simp only [List.getElem_toArray, List.getElem_cons_succ, List.getElem_cons_zero])
            go_simp
            refine hK.out _ _ (fun h => absurd (h.symm.trans (by kernel_rfl)) Bool.false_ne_true) ?_
            clear hK K
            (try simp only [Act.put, List.setIfInBounds_toArray, List.set_cons_zero, List.set_cons_succ])
            refine wpTill_done (by kernel_rfl) ?_ _
            clear hC0 bd0 y0 y1 y2 l0 l1 l2 HC7 hW4d hW9
            go_wp2_with fail
            exact ⟨⟨j + 1, ts, by rw [unhide HS4], by go_num, hlt, by rw [unhide HS4]; exact unhide HFIN, unhide HFB⟩, by simp [intOf]; omega⟩
          · have hy := cmpv_le (Rat.not_lt.1 hc)
            obtain ⟨y, hy'⟩ : ∃ y, cmpv (x j) (x kb) = y := ⟨_, rfl⟩
            rw [hy'] at HCM hy
            have hy2 : ¬ 0 < y := by omega
            have HS4 : Hid (Blf.lk x (j + 1) = kb) := by show _ = kb; rw [unhide HLK, if_neg hc]
            clear hc hy hy'
            go_wp2_with fail
            refine (unhide HCM).mono ?_
            rintro e W4 ⟨rfl, hb4⟩
            have HT4 := hide ((unhide HT3).keep hb4)
            have HB4 := hide (below_step (unhide HB3) hb4)
            clear hb4 HCM HT3 HXS3 z0 z1 z2 g0 g1 g2
            go_wp2_with fail
            exact ⟨⟨j + 1, tg, by rw [unhide HS4], by go_num, hlt, by rw [unhide HS4]; exact unhide HT4, unhide HB4⟩, by simp [intOf]; omega⟩
      · obtain rfl : j = n := by omega
        have j1 : ¬ (j : Int) < (j : Int) := by omega
        go_wp2
        go_ret
        exact ⟨rfl, unhide HB⟩

end Go.Proofs.YtfnbjenneodcdaaGreatDoor
