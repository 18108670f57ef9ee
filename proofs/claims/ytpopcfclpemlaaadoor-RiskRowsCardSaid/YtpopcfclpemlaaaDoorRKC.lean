/- Things of gates: Counts. -/
import Derived.Test.YtpopcfclpemlaaaDoorRKB
import Derived.Test.YtpopcfclpemlaaaDoorRNC
import Derived.Deep.SlicePairs
import Derived.LaidEql
namespace Go.Proofs.YtpopcfclpemlaaaDoor
open Go.RowKit Go.Sort Go.Shelf

theorem law_tris {w : World} {a : Option Addr} {c : Nat} {qs : List Rat} (h : LawIs w (.slice a qs.length c) qs) (hp : 0 < qs.length) : ∃ (b o : Nat) (us : List Tri), a = some ⟨b, o, none⟩ ∧ b < w.heap.size ∧ us.length = qs.length ∧ (∀ j u, (tcells us)[j]? = some u → w.cell? ((⟨b, o, none⟩ : Addr).add j) = some u) ∧ ∀ j, j < qs.length → RatIs w (us[j]!).val qs[j]! := by
  obtain ⟨a', c', e, _, _, h3⟩ := h
  obtain ⟨b, o, ea, hlt, hc⟩ := h3 hp
  have e1 : a = a' := by injection e
  have each : ∀ j, j < qs.length → ∃ t : Tri, (w.cell? ⟨b, o + j * 3, none⟩ = some (.bool t.s) ∧ w.cell? ⟨b, o + j * 3 + 1, none⟩ = some (.slice t.a1 t.n1 t.c1) ∧ w.cell? ⟨b, o + j * 3 + 2, none⟩ = some (.slice t.a2 t.n2 t.c2)) ∧ RatIs w t.val qs[j]! := fun j hj => by
    obtain ⟨s, a1, a2, n1, c1, n2, c2, k0, k1, k2, r⟩ := hc j hj
    exact ⟨⟨s, a1, a2, n1, c1, n2, c2⟩, ⟨k0, k1, k2⟩, r⟩
  obtain ⟨F, hF⟩ := Deep.choose_lt each
  have get : ∀ j, j < qs.length → ((List.range qs.length).map F)[j]! = F j := fun j hj => by simp [hj]
  refine ⟨b, o, (List.range qs.length).map F, by rw [e1, ea], hlt, by simp, fun j u hu => ?_, fun j hj => by rw [get j hj]; exact (hF j hj).2⟩
  have hj3 : j < qs.length * 3 := by
    have := (List.getElem?_eq_some_iff.1 hu).1
    rw [tcells_length] at this
    simpa using this
  have ej : j = j / 3 * 3 + j % 3 := by omega
  have hd : j / 3 < qs.length := by omega
  have hm : j % 3 < 3 := Nat.mod_lt _ (by decide)
  rw [ej, tcells_get _ _ _ (by simpa using hd) hm, get _ hd] at hu
  rw [addr_add, ej]
  obtain ⟨k0, k1, k2⟩ := (hF _ hd).1
  generalize j / 3 = p at *
  generalize j % 3 = r at *
  match r, hm with
  | 0, _ => rw [Nat.add_zero]; rw [k0]; exact hu
  | 1, _ => rw [← Nat.add_assoc, k1]; exact hu
  | 2, _ => rw [← Nat.add_assoc, k2]; exact hu
/-- What a copy is. -/
def ClonePost (w : World) (qs : List Rat) (e : Ending) (w' : World) : Prop := ∃ (G : Nat) (us : List Tri), e = .returned (.slice (some ⟨G, 0, none⟩) qs.length us.length) ∧ SumsAt w w' G us (qs ++ List.replicate (us.length - qs.length) 0) ∧ qs.length ≤ us.length ∧ us.length ≤ 9223372036854775807
set_option maxHeartbeats 16000000 in
set_option maxRecDepth 100000 in
set_option linter.unusedSimpArgs false in
theorem rclone_any (v : Value) (qs : List Rat) (w : World) (h : LawIs w v qs) (hp : 0 < qs.length) (hl : qs.length ≤ 1000) : Calls Tryd.prog 38 #[v] w (ClonePost w qs) := by
  obtain ⟨a, c, rfl, h1, h2, h3⟩ := id h
  obtain ⟨b, o, us, rfl, hblt, hus, hnews, hr⟩ := law_tris h hp
  obtain ⟨n, hn⟩ : ∃ n, qs.length = n := ⟨_, rfl⟩
  have q1 := fun (W : World) (a : Option Addr) (n c : Nat) => Lib.run_eql_slice_nil (P := Tryd.prog) W 26 31 a n c 0 0 Tryd.underlying26
  obtain ⟨i, hi, hz0, hz1, hz2⟩ := info_parts Tryd.infoR
  have hnews' : ∀ j u, (tcells us)[j]? = some u → (w.alloc (.cells #[] 31)).cell? ((⟨b, o, none⟩ : Addr).add j) = some u := fun j u hu => by
    have := hnews j u hu
    rw [addr_add] at this ⊢
    rw [(alloc_below w _).cell (p := ⟨b, o + j, none⟩) hblt]
    exact this
  have HNW := hide hnews'
  have HR := hide hr
  have HI := hide hi
  have H0 := hide hz0
  have HTL : Hid ((tcells us).length = n * 3) := by show _ = _; rw [tcells_length, hus, hn]
  have HUS : Hid (us.length = n) := by show _ = _; rw [hus, hn]
  have HN := hide hn
  rw [hn] at hp hl ⊢
  clear h h3 hnews hnews' hr hi hz0 hus hn
  go_enter Tryd.func38, Tryd.ntmps38
  go_wp2_with (at_builtin; go_loud (refine wpList_append_new _ rfl _ _ _ rfl 31 i _ 56 Tryd.underlying26 (unhide HI) (unhide H0) hz1 hz2 ⟨w.heap.size, 0, none⟩ rfl ⟨b, o, none⟩ n c (tcells us) rfl (unhide HTL) (unhide HNW) hp (by unfold maxLen; omega) (by omega) ?_; intro cap hcap hmx))
  go_ret
  have hzc : (Value.agg zR).cells = zR := by simp [Value.cells, zR]
  have bA : Below w.heap.size w ((w.alloc (.cells #[] 31)).drew.alloc (.cells ((tcells us).toArray ++ Builtin.zeroCells (Value.agg zR).cells (cap - n)) 31)) := below_step (below_step (alloc_below w _) ((Below.refl _ _).drew)) (alloc_below _ _)
  have hlen : (us ++ List.replicate (cap - n) zTri).length = cap := by rw [List.length_append, List.length_replicate, unhide HUS]; omega
  refine ⟨_, us ++ List.replicate (cap - n) zTri, by rw [hlen, unhide HN]; rfl, ⟨?_, ?_, fun j hj => ?_, bA, Nat.le_succ _⟩, by rw [hlen]; have := unhide HN; omega, by rw [hlen]; exact hmx⟩
  · have hn := heap_alloc_new ((w.alloc (.cells #[] 31)).drew) (.cells ((tcells us).toArray ++ Builtin.zeroCells (Value.agg zR).cells (cap - n)) 31)
    have hsz : (w.alloc (.cells #[] 31)).drew.heap.size = w.heap.size + 1 := alloc_size w _
    rw [hsz, hzc, zero_tcells] at hn
    rw [zero_tcells, tcells_app, show (tcells us ++ tcells (List.replicate (cap - n) zTri)).toArray = (tcells us).toArray ++ (tcells (List.replicate (cap - n) zTri)).toArray by simp]
    exact hn
  · rw [hlen, List.length_append, List.length_replicate, unhide HN]; omega
  · rw [hlen] at hj
    by_cases hjn : j < n
    · have e1 : (us ++ List.replicate (cap - n) zTri)[j]! = us[j]! := by rw [List.getElem!_eq_getElem?_getD, List.getElem!_eq_getElem?_getD, List.getElem?_append_left (by rw [unhide HUS]; exact hjn)]
      have e2 : (qs ++ List.replicate ((us ++ List.replicate (cap - n) zTri).length - qs.length) (0 : Rat))[j]! = qs[j]! := by rw [List.getElem!_eq_getElem?_getD, List.getElem!_eq_getElem?_getD, List.getElem?_append_left (by rw [unhide HN]; exact hjn)]
      rw [e1, e2]
      exact (unhide HR j (by rw [unhide HN]; exact hjn)).below bA
    · have e1 : (us ++ List.replicate (cap - n) zTri)[j]! = zTri := by
        rw [List.getElem!_eq_getElem?_getD, List.getElem?_append_right (by rw [unhide HUS]; omega), List.getElem?_replicate, if_pos (by rw [unhide HUS]; omega)]; rfl
      have e2 : (qs ++ List.replicate ((us ++ List.replicate (cap - n) zTri).length - qs.length) (0 : Rat))[j]! = 0 := by
        rw [hlen, List.getElem!_eq_getElem?_getD, List.getElem?_append_right (by rw [unhide HN]; omega), List.getElem?_replicate, if_pos (by rw [unhide HN]; omega)]; rfl
      rw [e1, e2]
      exact rat_zero _
theorem list_set_get (L : List Rat) {k j : Nat} (v : Rat) (hk : k < L.length) : (L.set k v)[j]! = if j = k then v else L[j]! := by
  rw [List.getElem!_eq_getElem?_getD, List.getElem?_set]
  by_cases e : k = j
  · subst e; rw [if_pos rfl, if_pos hk, if_pos rfl]; rfl
  · rw [if_neg e, if_neg (fun h => e h.symm), ← List.getElem!_eq_getElem?_getD]
theorem app_get (L M : List Rat) {j : Nat} (h : j < L.length) : (L ++ M)[j]! = L[j]! := by
  rw [List.getElem!_eq_getElem?_getD, List.getElem!_eq_getElem?_getD, List.getElem?_append_left h]
theorem xq_row (f : Nat → Rat) {n k : Nat} (h : k < n) : xq (row f n) k = f k := row_get h
def szz (J0 : Nat) : Nat → Nat → Nat
  | S, 0 => S
  | S, n + 1 => szz J0 (2 * S + 2 * J0 + 6) n
theorem lk_RS {p : Nat → Rat} {J0 : Nat} : ∀ (n S : Nat) (f : Nat → Rat), (∀ j, j < n → RS (p j) J0) → (∀ i, RS (f i) S) → RS (Rsk.lk p n f) (szz J0 S n)
  | 0, S, f, _, h => h 0
  | n + 1, S, f, hp, h => lk_RS n (2 * S + 2 * J0 + 6) _ (fun j hj => hp j (by omega)) (fun i => by
    have hv := hp n (by omega)
    exact ((hv.mul (h (i + 2 ^ n))).add ((one_RS'.sub' hv).mul (h i))).mono (by omega))
theorem put_RS {x : Nat → Rat} {J n k : Nat} {v : Rat} (h : ∀ j, j < n → RS (x j) J) (hv : RS v J) (j : Nat) (hj : j < n) : RS (Rsk.put x k v j) J := by
  unfold Rsk.put
  split
  · exact hv
  · exact h j hj
/-- How much a part counts. -/
def cnv (x : Nat → Rat) (n : Nat) (F : Nat → Rat) (j : Nat) : Rat := Rsk.lk (Rsk.put x j ((1 : Int) : Rat)) n F - Rsk.lk (Rsk.put x j ((0 : Int) : Rat)) n F
theorem cloned_law {w wr : World} {G n : Nat} {us : List Tri} {L : List Rat} {f : Nat → Rat} (h : SumsAt w wr G us L) (hn : n ≤ us.length) (hm : us.length ≤ 9223372036854775807) (e : ∀ j, j < n → L[j]! = f j) : LawIs wr (.slice (some ⟨G, 0, none⟩) n us.length) (row f n) :=
  h.law_take hm hn (row_length _ _) (fun j hj => by rw [row_get hj, e j hj])
set_option maxHeartbeats 16000000 in
set_option maxRecDepth 100000 in
set_option linter.unusedSimpArgs false in
theorem rCounts_err (a : Option Addr) (N c : Nat) (g : Rsk.Gs) (H : Nat → Option Addr × Nat) (v : Value) (qs : List Rat) (J : Nat) (k : Int) (w : World) (h : GRow w a N c g H) (hl : LawIs w v qs) (hq : ∀ j, j < qs.length → RS qs[j]! J) (h1 : 1 ≤ J) (hJ : J ≤ KK) (hk : ccode g N qs = k) (hk0 : k ≠ 0) :
    Calls Tryd.prog 13 #[.slice a N c, v] w fun e w' => e = .returned (.tuple #[.slice none 0 0, .iface 92 (.int .i64 k)]) ∧ Below w.heap.size w w' := by
  have HC := hide (gchances_any a N c g H v qs J w h hl hq h1 hJ)
  rw [hk, errV_not hk0] at HC
  have hh1 := h.1
  have hh2 := h.2.1
  obtain ⟨ap, cp, rfl, p2, p3, -⟩ := id hl
  clear h hl hq h1 hJ hk hk0
  generalize qs.length = n at *
  go_enter Tryd.func13, Tryd.ntmps13
  go_wp2_with fail
  refine (unhide HC).mono ?_
  rintro e w1 ⟨rfl, hb1⟩
  clear HC
  go_wp2
  go_ret2
  exact ⟨rfl, hb1⟩

set_option maxHeartbeats 16000000 in
set_option maxRecDepth 100000 in
set_option linter.unusedSimpArgs false in
theorem rCounts_ok (a : Option Addr) (N c : Nat) (g : Rsk.Gs) (H : Nat → Option Addr × Nat) (v : Value) (qs : List Rat) (n J JB : Nat) (w : World) (h : GRow w a N c g H) (hl : LawIs w v qs) (hn : qs.length = n) (hq : ∀ j, j < qs.length → RS qs[j]! J) (h1 : 1 ≤ J) (hk : ccode g N qs = 0) (hJB : szj J n + J + 8 ≤ JB) (hJS : szz J 1 n ≤ JB) (hJ : JB + JB + 1 ≤ KK) :
    Calls Tryd.prog 13 #[.slice a N c, v] w (RowNil w (row (cnv (xq qs) n (Rsk.wf g N)) n) n) := by
  have hG := (ccode_zero hk).1
  rw [hn] at hG
  have hn1 := hG.p1
  have hn10 := hG.p2
  have HC := hide (gchances_any a N c g H v qs J w h hl hq h1 (by omega))
  rw [hk, errV_zero] at HC
  have HLI : Hid (∀ (W : World) (u : Value) (f : Nat → Rat), Below w.heap.size w W → LawIs W u (row f n) → (∀ j, j < n → RS (f j) J) → Calls Tryd.prog 37 #[.slice a N c, u] W fun e w' => ∃ r, e = .returned r ∧ RatIs w' r (Rsk.lk f n (Rsk.wf g N)) ∧ Below W.heap.size W w') := fun W u f hW hu hf => by
    have := likely_any a N c n g H u (row f n) n J JB W (h.below hW) hG hu (row_length _ _) hn1 hn10 (fun j hj => by rw [row_length] at hj; rw [row_get hj]; exact hf j hj) hJB hJ
    rw [Rsk.lk_congr (q := f) n (fun k hk => xq_row f hk) (fun i _ => rfl)] at this
    exact this
  have HCL : Hid (∀ W, Below w.heap.size w W → Calls Tryd.prog 38 #[v] W (ClonePost W qs)) := fun W hW => rclone_any v qs W (hl.below hW) (by omega) (by omega)
  have HRX : Hid (∀ j, j < n → RS (xq qs j) J) := fun j hj => hq j (by omega)
  have HR1 : Hid (RS ((1 : Int) : Rat) J) := one_RSi.mono h1
  have HR0 : Hid (RS ((0 : Int) : Rat) J) := by
    show RS _ _
    rw [show ((0 : Int) : Rat) = 0 by simp]; exact RS.zero.mono h1
  have HJS := hide hJS
  have HJ := hide hJ
  have hh1 := h.1
  have hh2 := h.2.1
  have HN := hide hn
  obtain ⟨ap, cp, rfl, p2, p3, -⟩ := id hl
  rw [hn] at HC HCL p2 ⊢
  have HQX : Hid (∀ j, qs[j]! = xq qs j) := fun j => rfl
  obtain ⟨x, hx⟩ : ∃ x, xq qs = x := ⟨_, rfl⟩
  rw [hx] at HRX HQX ⊢
  obtain ⟨F, hF⟩ : ∃ F, Rsk.wf g N = F := ⟨_, rfl⟩
  have HRF : Hid (∀ i, RS (F i) 1) := fun i => by rw [← hF]; exact wf_RS g N i
  rw [hF] at HLI ⊢
  have QM : Hid (∀ W : World, _) := fun W => make_ratios (n : Int) (Int.natCast_nonneg n) (by omega) W
  clear h hl hq h1 hJ hk hJB hJS hG hx hF hn
  go_enter Tryd.func13, Tryd.ntmps13
  go_wp2_with fail
  refine (unhide HC).mono ?_
  rintro e w1 ⟨rfl, hb1⟩
  have qm := unhide QM w1
  rw [Int.toNat_natCast] at qm
  have S1 := SumsAt.start w w1 n hb1
  rw [fill_zero (cnv x n F)] at S1
  obtain ⟨W1, hW1⟩ : ∃ W, w1.alloc (.cells (tcells (List.replicate n zTri)).toArray 31) = W := ⟨_, rfl⟩
  obtain ⟨GO, hGO⟩ : ∃ G, w1.heap.size = G := ⟨_, rfl⟩
  rw [hW1] at qm S1
  rw [hGO] at qm S1
  have HS1 := hide S1
  have HG : Hid (w.heap.size ≤ GO) := S1.gl
  clear hb1 HC S1 QM
  go_wp2_with fail
  clear qm hW1 hGO
  go_loopw [22] (fun vi wr => ∃ (i : Nat) (us : List Tri), vi = .int .i64 (i : Int) ∧ i ≤ n ∧ us.length = n ∧ SumsAt w wr GO us (fill (cnv x n F) n i)) (fun vi _ => n - (intOf vi).toNat)
  case atStart => exact ⟨0, _, rfl, Nat.zero_le _, List.length_replicate, unhide HS1⟩
  case round =>
    obtain ⟨i, us, rfl, hi, hul, S⟩ := hrel
    clear HS1
    by_cases hlt : i < n
    · have j1 : (i : Int) < (n : Int) := by omega
      have j0 : (0 : Int) ≤ (i : Int) := by omega
      have HS := hide S
      have HUL := hide hul
      have HLT := hide hlt
      clear S hul hlt
      go_wp2_with fail
      refine (unhide HCL wr (unhide HS).bl).mono ?_
      rintro e w2 ⟨G, ks, rfl, SG, l1, l2⟩
      rw [unhide HN] at SG l1 ⊢
      obtain ⟨kc, hkc⟩ : ∃ k, ks.length = k := ⟨_, rfl⟩
      have HKC := hide hkc
      rw [hkc] at l1 l2 SG ⊢
      have HSG := hide SG
      clear SG hkc
      go_wp2_with fail
      refine (whole_any 1 (by decide) (by decide) w2).mono ?_
      rintro e w3 ⟨v3, rfl, hv3, hb3⟩
      obtain ⟨t3, rfl, r3⟩ := tri_of hv3
      simp only [Tri.val]
      have S3 := (unhide HSG).keep hb3
      have hik : i < ks.length := by have := unhide HKC; have := unhide HLT; omega
      have ⟨⟨y0, y1, y2⟩, g0, g1, g2⟩ := S3.cells i hik
      have FZ := S3.set i hik t3 _ r3
      obtain ⟨W3, hW3⟩ : ∃ W, ((w3.setCell ⟨G, i * 3, none⟩ (.bool t3.s)).setCell ⟨G, i * 3 + 1, none⟩ (.slice t3.a1 t3.n1 t3.c1)).setCell ⟨G, i * 3 + 2, none⟩ (.slice t3.a2 t3.n2 t3.c2) = W := ⟨_, rfl⟩
      rw [hW3] at FZ
      have hLl : i < (qs ++ List.replicate (kc - n) (0 : Rat)).length := by have := unhide HN; rw [List.length_append]; have := unhide HLT; omega
      have LW := cloned_law (n := n) (f := Rsk.put x i ((1 : Int) : Rat)) FZ (by rw [List.length_set, unhide HKC]; exact l1) (by rw [List.length_set, unhide HKC]; exact l2) (fun j hj => by
        rw [list_set_get _ _ hLl]
        unfold Rsk.put
        split
        · rfl
        · rw [app_get _ _ (by have := unhide HN; omega)]; exact unhide HQX j)
      rw [List.length_set, unhide HKC] at LW
      have HL1 := hide (unhide HLI W3 _ _ (below_step (unhide HS).bl FZ.bl) LW (fun j hj => put_RS (unhide HRX) (unhide HR1) j hj))
      have HFZ := hide FZ
      have i1 : (i : Int) < (n : Int) := j1
      clear S3 FZ LW hv3 r3 hb3 HSG
      go_wp2_with fail
      clear hW3 y0 y1 y2 g0 g1 g2
      refine (unhide HL1).mono ?_
      rintro e w4 ⟨v4, rfl, hv4, hb4⟩
      obtain ⟨tw, rfl, rw_⟩ := tri_of hv4
      simp only [Tri.val]
      have X4 := BoxIs.new rw_
      have b4 := below_step hb4 (alloc_below w4 (.cells #[.bool tw.s, .slice tw.a1 tw.n1 tw.c1, .slice tw.a2 tw.n2 tw.c2] 31))
      have S4 := (unhide HFZ).keep b4
      have hne : w4.heap.size ≠ G := fun e => by
        have h1 := (Array.getElem?_eq_some_iff.1 ((unhide HFZ).keep hb4).row).1
        omega
      obtain ⟨W4, hW4⟩ : ∃ W, w4.alloc (.cells #[.bool tw.s, .slice tw.a1 tw.n1 tw.c1, .slice tw.a2 tw.n2 tw.c2] 31) = W := ⟨_, rfl⟩
      obtain ⟨b10, hb10⟩ : ∃ b, w4.heap.size = b := ⟨_, rfl⟩
      rw [hW4] at X4 S4
      rw [hb10] at X4 hne
      have HX4 := hide X4
      have HS4 := hide S4
      have HNE := hide hne
      clear hv4 rw_ X4 b4 S4 hne hb4 HFZ HL1
      go_wp2_with fail
      clear hW4 hb10
      refine (whole_any 0 (by decide) (by decide) W4).mono ?_
      rintro e w5 ⟨v5, rfl, hv5, hb5⟩
      obtain ⟨t5, rfl, r5⟩ := tri_of hv5
      simp only [Tri.val]
      have S5 := (unhide HS4).keep hb5
      have X5 := (unhide HX4).keep hb5
      have hik5 : i < (ks.set i t3).length := by rw [List.length_set]; exact hik
      have ⟨⟨y0, y1, y2⟩, g0, g1, g2⟩ := S5.cells i hik5
      have FZ := S5.set i hik5 t5 _ r5
      have XZ := X5.rowed S5.row (unhide HNE) (i * 3) (i * 3 + 1) (i * 3 + 2) (.bool t5.s) (.slice t5.a1 t5.n1 t5.c1) (.slice t5.a2 t5.n2 t5.c2)
      obtain ⟨W5, hW5⟩ : ∃ W, ((w5.setCell ⟨G, i * 3, none⟩ (.bool t5.s)).setCell ⟨G, i * 3 + 1, none⟩ (.slice t5.a1 t5.n1 t5.c1)).setCell ⟨G, i * 3 + 2, none⟩ (.slice t5.a2 t5.n2 t5.c2) = W := ⟨_, rfl⟩
      rw [hW5] at FZ XZ
      have LW := cloned_law (n := n) (f := Rsk.put x i ((0 : Int) : Rat)) FZ (by rw [List.length_set, List.length_set, unhide HKC]; exact l1) (by rw [List.length_set, List.length_set, unhide HKC]; exact l2) (fun j hj => by
        rw [list_set_get _ _ (by rw [List.length_set]; exact hLl), list_set_get _ _ hLl]
        unfold Rsk.put
        split
        · rfl
        · rw [app_get _ _ (by have := unhide HN; omega)]; exact unhide HQX j)
      rw [List.length_set, List.length_set, unhide HKC] at LW
      have HB5 := hide (below_step (unhide HS).bl FZ.bl)
      have HL0 : Hid (∀ W, Below W5.heap.size W5 W → Calls Tryd.prog 37 #[.slice a N c, .slice (some ⟨G, 0, none⟩) n kc] W fun e w' => ∃ r, e = .returned r ∧ RatIs w' r (Rsk.lk (Rsk.put x i ((0 : Int) : Rat)) n F) ∧ Below W.heap.size W w') := fun W hW => unhide HLI W _ _ (below_step (unhide HB5) hW) (LW.below hW) (fun j hj => put_RS (unhide HRX) (unhide HR0) j hj)
      have HS5 := hide ((unhide HS).keep FZ.bl)
      have HCC : Hid (∀ W, Below W5.heap.size W5 W → (fun w' : World => w'.cell? ⟨b10, 0, none⟩ = some (.bool tw.s) ∧ w'.cell? ⟨b10, 1, none⟩ = some (.slice tw.a1 tw.n1 tw.c1) ∧ w'.cell? ⟨b10, 2, none⟩ = some (.slice tw.a2 tw.n2 tw.c2)) W) := fun W hW => XZ.cells W hW
      have HTW := hide XZ.2
      have HRW : Hid (RS (Rsk.lk (Rsk.put x i ((1 : Int) : Rat)) n F) JB) := (lk_RS n 1 F (fun j hj => put_RS (unhide HRX) (unhide HR1) j hj) (unhide HRF)).mono (unhide HJS)
      have HRV : Hid (RS (Rsk.lk (Rsk.put x i ((0 : Int) : Rat)) n F) JB) := (lk_RS n 1 F (fun j hj => put_RS (unhide HRX) (unhide HR0) j hj) (unhide HRF)).mono (unhide HJS)
      have HQV : Hid (Rsk.lk (Rsk.put x i ((1 : Int) : Rat)) n F - Rsk.lk (Rsk.put x i ((0 : Int) : Rat)) n F = cnv x n F i) := rfl
      clear S5 X5 FZ XZ LW hv5 r5 hb5 HX4 HS4 HS hik hik5 hLl
      go_wp2_with fail
      clear hW5 y0 y1 y2 g0 g1 g2
      refine wp_region_till (fun w' : World => w'.cell? ⟨b10, 0, none⟩ = some (.bool tw.s) ∧ w'.cell? ⟨b10, 1, none⟩ = some (.slice tw.a1 tw.n1 tw.c1) ∧ w'.cell? ⟨b10, 2, none⟩ = some (.slice tw.a2 tw.n2 tw.c2)) 8 (by kernel_rfl) ?_
      have bd0 : Below W5.heap.size W5 W5.drew := (Below.refl _ _).drew
      obtain ⟨Wd, hWd⟩ : ∃ W, W5.drew = W := ⟨_, rfl⟩
      rw [hWd] at bd0 ⊢
      have hC0 : (fun w' : World => w'.cell? ⟨b10, 0, none⟩ = some (.bool tw.s) ∧ w'.cell? ⟨b10, 1, none⟩ = some (.slice tw.a1 tw.n1 tw.c1) ∧ w'.cell? ⟨b10, 2, none⟩ = some (.slice tw.a2 tw.n2 tw.c2)) Wd := unhide HCC _ bd0
      refine wpTill_pure (i := 0) (v := ?_) rfl (by kernel_rfl) (by kernel_rfl) (by kernel_rfl) (by kernel_rfl) (fun _ _ _ h => h) (Or.inl ⟨by rfl, ?_⟩) (fun _ => hC0) ?_
      rotate_left
      · intro w hSw; clear hSw; go_simp; (try with_reducible rfl)
      (try simp only [List.getElem_toArray, List.getElem_cons_succ, List.getElem_cons_zero])
      (try simp only [Act.put, List.setIfInBounds_toArray, List.set_cons_zero, List.set_cons_succ])
      refine wpTill_pure (i := 1) (v := ?_) rfl (by kernel_rfl) (by kernel_rfl) (by kernel_rfl) (by kernel_rfl) (fun _ _ _ h => h) (Or.inl ⟨by rfl, ?_⟩) (fun _ => hC0) ?_
      rotate_left
      · intro w hSw; clear hSw; go_simp; (try with_reducible rfl)
      (try simp only [List.getElem_toArray, List.getElem_cons_succ, List.getElem_cons_zero])
      (try simp only [Act.put, List.setIfInBounds_toArray, List.set_cons_zero, List.set_cons_succ])
      refine wpTill_take (i := 2) (v := ?_) rfl (by kernel_rfl) (by kernel_rfl) (by kernel_rfl) (by kernel_rfl) (by kernel_rfl) (by kernel_rfl) (fun _ _ _ h => h) (Or.inl ⟨by rfl, ?_⟩) hC0 ?_
      rotate_left
      · intro w hSw; (try dsimp only at hSw); obtain ⟨u0, u1, u2⟩ := hSw; go_simp; (try with_reducible rfl)
      (try simp only [List.getElem_toArray, List.getElem_cons_succ, List.getElem_cons_zero])
      (try simp only [Act.put, List.setIfInBounds_toArray, List.set_cons_zero, List.set_cons_succ])
      refine wpTill_pure (i := 3) (v := ?_) rfl (by kernel_rfl) (by kernel_rfl) (by kernel_rfl) (by kernel_rfl) (fun _ _ _ h => h) (Or.inl ⟨by rfl, ?_⟩) (fun _ => hC0) ?_
      rotate_left
      · intro w hSw; clear hSw; go_simp; (try with_reducible rfl)
      (try simp only [List.getElem_toArray, List.getElem_cons_succ, List.getElem_cons_zero])
      (try simp only [Act.put, List.setIfInBounds_toArray, List.set_cons_zero, List.set_cons_succ])
      refine wpTill_pure (i := 4) (v := ?_) rfl (by kernel_rfl) (by kernel_rfl) (by kernel_rfl) (by kernel_rfl) (fun _ _ _ h => h) (Or.inl ⟨by rfl, ?_⟩) (fun _ => hC0) ?_
      rotate_left
      · intro w hSw; clear hSw; go_simp; (try with_reducible rfl)
      (try simp only [List.getElem_toArray, List.getElem_cons_succ, List.getElem_cons_zero])
      (try simp only [Act.put, List.setIfInBounds_toArray, List.set_cons_zero, List.set_cons_succ])
      refine wpTill_one (k := 5) (by kernel_rfl) rfl (fun K hK => ?_)
      (try simp only [List.getElem_toArray, List.getElem_cons_succ, List.getElem_cons_zero])
      go_simp
      refine (unhide HL0 _ bd0).mono ?_
      rintro e xw_1 ⟨xv_1, rfl, hv_1, hb_1⟩
      have cc_1 := below_step bd0 hb_1
      have hC_1 : (fun w' : World => w'.cell? ⟨b10, 0, none⟩ = some (.bool tw.s) ∧ w'.cell? ⟨b10, 1, none⟩ = some (.slice tw.a1 tw.n1 tw.c1) ∧ w'.cell? ⟨b10, 2, none⟩ = some (.slice tw.a2 tw.n2 tw.c2)) xw_1 := unhide HCC _ cc_1
      refine hK.out _ _ (fun _ => hC_1) ?_
      clear hK K
      (try simp only [Act.put, List.setIfInBounds_toArray, List.set_cons_zero, List.set_cons_succ])
      refine wpTill_one (k := 6) (by kernel_rfl) rfl (fun K hK => ?_)
      (try simp only [List.getElem_toArray, List.getElem_cons_succ, List.getElem_cons_zero])
      go_simp
      refine (subR_any tw.val _ _ _ _ ((unhide HTW).below cc_1) hv_1 JB (unhide HRW) (unhide HRV) (unhide HJ)).mono ?_
      rintro e xw_2 ⟨xv_2, rfl, hv_2, hb_2⟩
      have cc_2 := below_step cc_1 hb_2
      have hC_2 : (fun w' : World => w'.cell? ⟨b10, 0, none⟩ = some (.bool tw.s) ∧ w'.cell? ⟨b10, 1, none⟩ = some (.slice tw.a1 tw.n1 tw.c1) ∧ w'.cell? ⟨b10, 2, none⟩ = some (.slice tw.a2 tw.n2 tw.c2)) xw_2 := unhide HCC _ cc_2
      refine hK.out _ _ (fun _ => hC_2) ?_
      clear hK K
      (try simp only [Act.put, List.setIfInBounds_toArray, List.set_cons_zero, List.set_cons_succ])
      refine wpTill_pure (i := 7) (v := ?_) rfl (by kernel_rfl) (by kernel_rfl) (by kernel_rfl) (by kernel_rfl) (fun _ _ _ h => h) (Or.inl ⟨by rfl, ?_⟩) (fun _ => hC_2) ?_
      rotate_left
      · intro w hSw; clear hSw; go_simp; (try with_reducible rfl)
      (try simp only [List.getElem_toArray, List.getElem_cons_succ, List.getElem_cons_zero])
      (try simp only [Act.put, List.setIfInBounds_toArray, List.set_cons_zero, List.set_cons_succ])
      obtain ⟨t9, rfl, r9⟩ := tri_of hv_2
      simp only [Tri.val]
      have S8 := (unhide HS5).keep cc_2
      have ⟨⟨y0, y1, y2⟩, g0, g1, g2⟩ := S8.cells i (by rw [unhide HUL]; exact unhide HLT)
      have FZ := S8.set i (by rw [unhide HUL]; exact unhide HLT) t9 _ r9
      obtain ⟨WA, hWA⟩ : ∃ W, ((xw_2.setCell ⟨GO, i * 3, none⟩ (.bool t9.s)).setCell ⟨GO, i * 3 + 1, none⟩ (.slice t9.a1 t9.n1 t9.c1)).setCell ⟨GO, i * 3 + 2, none⟩ (.slice t9.a2 t9.n2 t9.c2) = W := ⟨_, rfl⟩
      rw [hWA, unhide HQV, fill_set] at FZ
      have HFZ := hide FZ
      clear S8 FZ r9 hv_1 hv_2
      refine wpTill_one (k := 8) (by kernel_rfl) rfl (fun K hK => ?_)
      (try simp only [List.getElem_toArray, List.getElem_cons_succ, List.getElem_cons_zero])
      go_simp
      refine hK.out _ _ (fun h => absurd (h.symm.trans (by kernel_rfl)) Bool.false_ne_true) ?_
      clear hK K
      (try simp only [Act.put, List.setIfInBounds_toArray, List.set_cons_zero, List.set_cons_succ])
      refine wpTill_done (by kernel_rfl) ?_ _
      clear HCC HL0 HTW HS5 HRW HRV HQV y0 y1 y2 g0 g1 g2 hWA hC0 hC_1 hC_2 cc_1 cc_2 bd0 hb_1 hb_2 hWd
      go_wp2_with fail
      exact ⟨⟨i + 1, _, by go_num, unhide HLT, by rw [List.length_set]; exact unhide HUL, unhide HFZ⟩, by have := unhide HLT; simp [intOf]; omega⟩
    · obtain rfl : i = n := by omega
      have j1 : ¬ (i : Int) < (i : Int) := by omega
      have HF : Hid (SumsAt w wr GO us (row (cnv x i F) i)) := S
      have HU := hide hul
      clear S hul
      go_wp2
      go_ret2
      exact ⟨GO, us, rfl, unhide HU, unhide HG, unhide HF⟩

end Go.Proofs.YtpopcfclpemlaaaDoor
/- Things of gates: few, joined; what a copy is. -/
namespace Go.Proofs.YtpopcfclpemlaaaDoor
open Go.RowKit Go.Sort Go.Shelf

def SomeW (w : World) (e : Ending) (w' : World) : Prop := (∃ b : Bool, e = .returned (.bool b)) ∧ w' = w
set_option maxHeartbeats 16000000 in
set_option maxRecDepth 100000 in
set_option linter.unusedSimpArgs false in
theorem few_any (a : Option Addr) (N c : Nat) (g : Rsk.Gs) (H : Nat → Option Addr × Nat) (w : World) (h : GRow w a N c g H) :
    Calls Tryd.prog 9 #[.slice a N c] w (SomeW w) := by
  obtain ⟨h1, h2, h3, h4⟩ := h
  have H3 := hide h3
  have H4 := hide h4
  clear h3 h4
  go_enter Tryd.func9, Tryd.ntmps9
  go_wp2_with fail
  go_loopw [3, 4] (fun vn vi wr => ∃ (i : Nat) (z : Int), vn = .int .i64 z ∧ vi = .int .i64 (i : Int) ∧ i ≤ N ∧ wr = w) (fun _ vi _ => N - (intOf vi).toNat)
  case atStart => exact ⟨0, _, rfl, rfl, Nat.zero_le _, rfl⟩
  case round =>
    obtain ⟨i, z, rfl, rfl, hi, rfl⟩ := hrel
    by_cases hlt : i < N
    · have j1 : (i : Int) < (N : Int) := by omega
      have j0 : (0 : Int) ≤ (i : Int) := by omega
      have jm : (i : Int) + 1 ≤ 9223372036854775807 := by omega
      have jw : IntKind.i64.wrap ((i : Int) + 1) = (i : Int) + 1 := by rw [IntKind.wrap_i64]; omega
      obtain ⟨b, o, rfl, hbl, hc⟩ := unhide H4 (by omega)
      have ⟨q0, q1⟩ := hc i hlt
      have hI := unhide H3 i hlt
      obtain ⟨s1, s2, -⟩ := hI
      have HLT := hide hlt
      clear hc hlt q0
      go_wp2
      exact ⟨⟨i + 1, _, rfl, by go_num, unhide HLT, by first | exact rfl | trivial⟩, by have := unhide HLT; simp [intOf]; omega⟩
    · obtain rfl : i = N := by omega
      have j1 : ¬ (i : Int) < (i : Int) := by omega
      go_wp2
      go_ret
      exact ⟨⟨_, rfl⟩, rfl⟩

/-- A copy made by an append to nothing. -/
theorem clone_world {w : World} {n cap : Nat} {us : List Tri} {qs : List Rat} (hus : us.length = n) (hn : qs.length = n) (hr : ∀ j, j < qs.length → RatIs w (us[j]!).val qs[j]!) (hcap : n ≤ cap) :
    SumsAt w ((w.alloc (.cells #[] 31)).drew.alloc (.cells ((tcells us).toArray ++ Builtin.zeroCells (Value.agg zR).cells (cap - n)) 31)) (w.heap.size + 1) (us ++ List.replicate (cap - n) zTri) (qs ++ List.replicate (cap - n) 0) ∧ (us ++ List.replicate (cap - n) zTri).length = cap := by
  have hzc : (Value.agg zR).cells = zR := by simp [Value.cells, zR]
  have bA : Below w.heap.size w ((w.alloc (.cells #[] 31)).drew.alloc (.cells ((tcells us).toArray ++ Builtin.zeroCells (Value.agg zR).cells (cap - n)) 31)) := below_step (below_step (alloc_below w _) ((Below.refl _ _).drew)) (alloc_below _ _)
  have hlen : (us ++ List.replicate (cap - n) zTri).length = cap := by rw [List.length_append, List.length_replicate, hus]; omega
  refine ⟨⟨?_, ?_, fun j hj => ?_, bA, Nat.le_succ _⟩, hlen⟩
  · have hn := heap_alloc_new ((w.alloc (.cells #[] 31)).drew) (.cells ((tcells us).toArray ++ Builtin.zeroCells (Value.agg zR).cells (cap - n)) 31)
    have hsz : (w.alloc (.cells #[] 31)).drew.heap.size = w.heap.size + 1 := alloc_size w _
    rw [hsz, hzc, zero_tcells] at hn
    rw [hzc, zero_tcells, tcells_app, show (tcells us ++ tcells (List.replicate (cap - n) zTri)).toArray = (tcells us).toArray ++ (tcells (List.replicate (cap - n) zTri)).toArray by simp]
    exact hn
  · rw [hlen, List.length_append, List.length_replicate, hn]; omega
  · rw [hlen] at hj
    by_cases hjn : j < n
    · have e1 : (us ++ List.replicate (cap - n) zTri)[j]! = us[j]! := by rw [List.getElem!_eq_getElem?_getD, List.getElem!_eq_getElem?_getD, List.getElem?_append_left (by rw [hus]; exact hjn)]
      have e2 : (qs ++ List.replicate (cap - n) (0 : Rat))[j]! = qs[j]! := by rw [List.getElem!_eq_getElem?_getD, List.getElem!_eq_getElem?_getD, List.getElem?_append_left (by rw [hn]; exact hjn)]
      rw [e1, e2]
      exact (hr j (by rw [hn]; exact hjn)).below bA
    · have e1 : (us ++ List.replicate (cap - n) zTri)[j]! = zTri := by
        rw [List.getElem!_eq_getElem?_getD, List.getElem?_append_right (by rw [hus]; omega), List.getElem?_replicate, if_pos (by rw [hus]; omega)]; rfl
      have e2 : (qs ++ List.replicate (cap - n) (0 : Rat))[j]! = 0 := by
        rw [List.getElem!_eq_getElem?_getD, List.getElem?_append_right (by rw [hn]; omega), List.getElem?_replicate, if_pos (by rw [hn]; omega)]; rfl
      rw [e1, e2]
      exact rat_zero _
def jng : Rsk.Gs := ⟨fun _ => 2, fun _ => 3, fun _ j => (j : Int)⟩
def jnq : List Rat := [Rat.divInt 1 2, Rat.divInt 1 2, Rat.divInt 1 2]
theorem jnq_rs : ∀ j, j < jnq.length → RS jnq[j]! 1 := fun j hj => by
  have hj : j < 3 := hj
  match j, hj with
  | 0, _ => exact ⟨by decide +kernel, by decide +kernel⟩
  | 1, _ => exact ⟨by decide +kernel, by decide +kernel⟩
  | 2, _ => exact ⟨by decide +kernel, by decide +kernel⟩
theorem jn_code : ccode jng 1 jnq = 0 := by decide +kernel
theorem jn_lk : Rsk.lk (xq jnq) jnq.length (Rsk.wf jng 1) = Rat.divInt 1 2 := by decide +kernel
theorem jn_text : qtext (Rat.divInt 1 2) = [49, 47, 50] := by decide +kernel
set_option maxHeartbeats 16000000 in
set_option maxRecDepth 100000 in
set_option linter.unusedSimpArgs false in
theorem joined_any (w : World) (htab : Tab w) : Calls Tryd.prog 14 #[] w fun e w' => e = .returned (.bool true) ∧ Below w.heap.size w w' := by
  have KKe : KK = 1099511627776 := rfl
  have HTB := hide htab
  clear htab
  go_enter Tryd.func14, Tryd.ntmps14
  go_wp2_with fail
  refine (of_any 1 2 (by decide) (by decide) (by decide) (by decide) (by decide) w).mono ?_
  rintro e w1 ⟨v1, rfl, hv1, hb1⟩
  obtain ⟨th, rfl, r1⟩ := tri_of hv1
  simp only [Tri.val]
  have b1 := alloc_below w1 (.cells #[.bool th.s, .slice th.a1 th.n1 th.c1, .slice th.a2 th.n2 th.c2] 31)
  have X1 := BoxIs.new r1
  obtain ⟨W1, hW1⟩ : ∃ W, w1.alloc (.cells #[.bool th.s, .slice th.a1 th.n1 th.c1, .slice th.a2 th.n2 th.c2] 31) = W := ⟨_, rfl⟩
  obtain ⟨gh, hgh⟩ : ∃ g, w1.heap.size = g := ⟨_, rfl⟩
  rw [hW1] at b1 X1
  rw [hgh] at X1
  have b2 := alloc_below W1 (.cells #[.int .i64 0, .int .i64 1, .int .i64 2] 3)
  have n2 := heap_alloc_new W1 (.cells #[.int .i64 0, .int .i64 1, .int .i64 2] 3)
  obtain ⟨W2, hW2⟩ : ∃ W, W1.alloc (.cells #[.int .i64 0, .int .i64 1, .int .i64 2] 3) = W := ⟨_, rfl⟩
  obtain ⟨gI, hgI⟩ : ∃ g, W1.heap.size = g := ⟨_, rfl⟩
  rw [hW2] at b2 n2
  rw [hgI] at n2
  have b3 := alloc_below W2 (.cells #[.int .i64 2, .slice (some ⟨gI, 0, none⟩) 3 3] 58)
  have n3 := heap_alloc_new W2 (.cells #[.int .i64 2, .slice (some ⟨gI, 0, none⟩) 3 3] 58)
  have n2' := heap_kept n2 b3
  obtain ⟨W3, hW3⟩ : ∃ W, W2.alloc (.cells #[.int .i64 2, .slice (some ⟨gI, 0, none⟩) 3 3] 58) = W := ⟨_, rfl⟩
  obtain ⟨gG, hgG⟩ : ∃ g, W2.heap.size = g := ⟨_, rfl⟩
  rw [hW3] at b3 n3 n2'
  rw [hgG] at n3
  have X3 := X1.keep (below_step b2 b3)
  have ⟨c0, c1, c2⟩ := X3.cells _ (Below.refl _ _)
  have b4 := alloc_below W3 (.cells #[.bool th.s, .slice th.a1 th.n1 th.c1, .slice th.a2 th.n2 th.c2, .bool th.s, .slice th.a1 th.n1 th.c1, .slice th.a2 th.n2 th.c2, .bool th.s, .slice th.a1 th.n1 th.c1, .slice th.a2 th.n2 th.c2] 31)
  have n4 := heap_alloc_new W3 (.cells #[.bool th.s, .slice th.a1 th.n1 th.c1, .slice th.a2 th.n2 th.c2, .bool th.s, .slice th.a1 th.n1 th.c1, .slice th.a2 th.n2 th.c2, .bool th.s, .slice th.a1 th.n1 th.c1, .slice th.a2 th.n2 th.c2] 31)
  have n3' := heap_kept n3 b4
  have n2'' := heap_kept n2' b4
  have X4 := X3.keep b4
  obtain ⟨W4, hW4⟩ : ∃ W, W3.alloc (.cells #[.bool th.s, .slice th.a1 th.n1 th.c1, .slice th.a2 th.n2 th.c2, .bool th.s, .slice th.a1 th.n1 th.c1, .slice th.a2 th.n2 th.c2, .bool th.s, .slice th.a1 th.n1 th.c1, .slice th.a2 th.n2 th.c2] 31) = W := ⟨_, rfl⟩
  obtain ⟨gH, hgH⟩ : ∃ g, W3.heap.size = g := ⟨_, rfl⟩
  rw [hW4] at b4 n4 n3' n2'' X4
  rw [hgH] at n4
  have hG : GRow W4 (some ⟨gG, 0, none⟩) 1 1 jng (fun _ => (some ⟨gI, 0, none⟩, 3)) := by
    refine ⟨Nat.le_refl _, by decide, fun i hi => ⟨Nat.le_refl _, by show (3 : Nat) ≤ _; decide, fun _ => ⟨gI, 0, rfl, (Array.getElem?_eq_some_iff.1 n2'').1, fun j hj => ?_⟩⟩, fun _ => ⟨gG, 0, rfl, (Array.getElem?_eq_some_iff.1 n3').1, fun i hi => ?_⟩⟩
    · have hj : j < 3 := hj
      match j, hj with
      | 0, _ => simp [World.cell?, n2'', jng]
      | 1, _ => simp [World.cell?, n2'', jng]
      | 2, _ => simp [World.cell?, n2'', jng]
    · match i, hi with
      | 0, _ => simp [World.cell?, n3', jng]
  have LA := law_three n4 X4.2 X4.2 X4.2
  have HCH := hide (rChance_ok _ _ _ _ _ _ jnq 1 1000 W4 hG LA jnq_rs (by decide) jn_code (by decide) (by decide))
  rw [jn_lk] at HCH
  have HB := hide (below_step (below_step (below_step (below_step hb1 b1) b2) b3) b4)
  clear hv1 hb1 r1 b1 X1 b2 n2 b3 n3 n2' X3 b4 n4 n3' n2'' X4 hG LA
  go_wp2_with fail
  clear hW1 hgh hW2 hgI hW3 hgG hW4 hgH c0 c1 c2
  refine (unhide HCH).mono ?_
  rintro e w5 ⟨v5, rfl, hv5, hb5⟩
  obtain ⟨t5, rfl, r5⟩ := tri_of hv5
  simp only [Tri.val]
  have b6 := alloc_below w5 (.cells #[.bool t5.s, .slice t5.a1 t5.n1 t5.c1, .slice t5.a2 t5.n2 t5.c2] 31)
  have X6 := BoxIs.new r5
  obtain ⟨W6, hW6⟩ : ∃ W, w5.alloc (.cells #[.bool t5.s, .slice t5.a1 t5.n1 t5.c1, .slice t5.a2 t5.n2 t5.c2] 31) = W := ⟨_, rfl⟩
  obtain ⟨g6, hg6⟩ : ∃ g, w5.heap.size = g := ⟨_, rfl⟩
  rw [hW6] at b6 X6
  rw [hg6] at X6
  have HB6 := hide (below_step (below_step (unhide HB) hb5) b6)
  have ⟨c0, c1, c2⟩ := X6.cells _ (Below.refl _ _)
  have HTX := hide (textR_any t5.val (Rat.divInt 1 2) W6 X6.2 1 ⟨by decide +kernel, by decide +kernel⟩ (by rw [KKe]; omega) (tab_below (unhide HTB) (unhide HB6)))
  rw [jn_text] at HTX
  simp only [Tri.val] at HTX
  clear hv5 r5 hb5 b6 X6 HCH HB
  go_wp2_with fail
  clear hW6 hg6
  refine (unhide HTX).mono ?_
  rintro e w7 ⟨rfl, hb7⟩
  have HB7 := hide (below_step (unhide HB6) hb7)
  clear hb7 c0 c1 c2
  go_wp2
  go_ret
  exact ⟨rfl, unhide HB7⟩

end Go.Proofs.YtpopcfclpemlaaaDoor
