/- The library's heap, over a pool. -/
import Derived.Test.YtepgdlgifempeaaDoorY11
namespace Go.Proofs.YtepgdlgifempeaaDoor
open Go.RowKit Go.Sort Stb Shp Hp

theorem load_pool (pp : Nat) (a : Option Addr) (n c : Nat) (w : World) (h : w.cell? ⟨pp, 0, none⟩ = some (.slice a n c)) : (loadVar 89 ⟨pp, 0, none⟩).run Tryd.prog w = .ok (.slice a n c) w := by
  go_simp
/-- A method called through an interface: which function, of what. -/
theorem meth_of {P : Program} {t e : TypeId} {nm : String} {k fuel : Nat} (h : (P.info? t).map (fun i => (i.methods.find? (·.name == nm)).map (fun m => (m.path, m.func))) = some (some (#[], some (k, false)))) (hu : P.underlying t = some (.pointer e)) (a : Addr) (v : Value) (w : World) (hl : (loadVar e a).run P w = .ok v w) :
    (method (fuel + 1) t (.pointer (some a)) nm).run P w = .ok (k, v) w := by
  cases hi : P.info? t with
  | none => rw [hi] at h; cases h
  | some i =>
    rw [hi] at h
    simp only [Option.map_some, Option.some.injEq] at h
    cases hf : i.methods.find? (·.name == nm) with
    | none => rw [hf] at h; cases h
    | some m =>
      rw [hf] at h
      simp only [Option.map_some, Option.some.injEq, Prod.mk.injEq] at h
      have hw : ∀ s, (Builtin.ssaWrapNilChk_ #[t] t #[.pointer (some a), strVal "", strVal s]).run P w = .ok (.pointer (some a)) w := fun s => rfl
      simp [method, typeInfo, hi, hf, h.1, h.2, follow, receiverAt, run_underlying hu, Place.get, hw, asAddr, hl]
theorem meth_less {pp : Nat} {a : Option Addr} {n c : Nat} {w : World} (h : w.cell? ⟨pp, 0, none⟩ = some (.slice a n c)) : (method 258 74 (.pointer (some ⟨pp, 0, none⟩)) "Less").run Tryd.prog w = .ok (89, .slice a n c) w :=
  meth_of (by kernel_rfl) Tryd.underlying74 _ _ w (load_pool pp a n c w h)
theorem meth_swap {pp : Nat} {a : Option Addr} {n c : Nat} {w : World} (h : w.cell? ⟨pp, 0, none⟩ = some (.slice a n c)) : (method 258 74 (.pointer (some ⟨pp, 0, none⟩)) "Swap").run Tryd.prog w = .ok (92, .slice a n c) w :=
  meth_of (by kernel_rfl) Tryd.underlying74 _ _ w (load_pool pp a n c w h)
theorem meth_len {pp : Nat} {a : Option Addr} {n c : Nat} {w : World} (h : w.cell? ⟨pp, 0, none⟩ = some (.slice a n c)) : (method 258 74 (.pointer (some ⟨pp, 0, none⟩)) "Len").run Tryd.prog w = .ok (88, .slice a n c) w :=
  meth_of (by kernel_rfl) Tryd.underlying74 _ _ w (load_pool pp a n c w h)
theorem meth_push (pp : Nat) (w : World) : (method 258 74 (.pointer (some ⟨pp, 0, none⟩)) "Push").run Tryd.prog w = .ok (91, .pointer (some ⟨pp, 0, none⟩)) w := by
  kernel_rfl
theorem meth_pop (pp : Nat) (w : World) : (method 258 74 (.pointer (some ⟨pp, 0, none⟩)) "Pop").run Tryd.prog w = .ok (90, .pointer (some ⟨pp, 0, none⟩)) w := by
  kernel_rfl

/-- What up and down leave. -/
def HeapPost (S : Nat → Prop) (w0 : World) (pp g n m cap : Nat) (L : Nat → Int) (f : Nat → Nat) (w' : World) : Prop := ∃ f', HP S w0 w' pp g n cap L f' ∧ Heap (les L) f' m ∧ Re 0 m f f'

set_option maxHeartbeats 8000000 in
set_option maxRecDepth 100000 in
set_option linter.unusedSimpArgs false in
theorem up_any (pp g n cap : Nat) (L : Nat → Int) (f : Nat → Nat) (j : Nat) (S : Nat → Prop) (w0 w : World) (h : HP S w0 w pp g n cap L f) (hn : n ≤ 100) (hj : j < n) (hu : Up (les L) f n j) :
    Calls Tryd.prog 56 #[.iface 74 (.pointer (some ⟨pp, 0, none⟩)), .int .i64 (j : Int)] w fun e w' => e = .returned (.tuple #[]) ∧ HeapPost S w0 pp g n n cap L f w' := by
  have HH := hide h
  have HU := hide hu
  have hjj := hj
  clear h hu
  go_enter Tryd.func56, Tryd.ntmps56
  go_wp2_with fail
  go_loopw [1] (fun vj wr => ∃ (j : Nat) (f' : Nat → Nat), vj = .int .i64 (j : Int) ∧ j < n ∧ HP S w0 wr pp g n cap L f' ∧ Up (les L) f' n j ∧ Re 0 n f f') (fun vj _ => (intOf vj).toNat)
  case atStart => exact ⟨j, f, rfl, hj, unhide HH, unhide HU, Re.refl _ _ _⟩
  case round =>
    obtain ⟨j, f', rfl, hj, hH, hU, hR⟩ := hrel
    have mL := meth_less hH.box.c0
    have HL := hide (pless_any g n cap L f' j (par j) wr hH.row hj (by have : par j ≤ j := by unfold par; omega
                                                                       omega))
    obtain ⟨i, hi⟩ : ∃ i, par j = i := ⟨_, rfl⟩
    rw [hi] at HL
    have hij : i ≤ j := by rw [← hi]; unfold par; omega
    obtain ⟨d, hd⟩ : ∃ d, (j : Int) - 1 = d := ⟨_, rfl⟩
    have e1 : IntKind.i64.wrap ((j : Int) - 1) = d := by rw [IntKind.wrap_i64]; omega
    have e2 : d.tdiv 2 = (i : Int) := by
      rw [← hd, ← hi]
      unfold par
      by_cases h0 : j = 0
      · subst h0; rfl
      · rw [Int.tdiv_eq_ediv_of_nonneg (by omega)]; omega
    have e3 : IntKind.i64.wrap (i : Int) = (i : Int) := by rw [IntKind.wrap_i64]; omega
    have HHH := hide hH
    have HRR := hide hR
    by_cases h0 : i = j
    · have e4 : ((i : Int) == (j : Int)) = true := by simp; omega
      have HFIN : Hid (Heap (les L) f' n) := up_stop hU (Or.inl (by
        rcases Nat.eq_zero_or_pos j with c | c
        · exact c
        · have := par_lt c; omega))
      clear hH hU hR hi hd h0 HL mL
      go_wp2
      (try simp only [Exit.inBlock, Exit.then])
      (try go_wp2)
      exact bodyPost_end (v := .tuple #[]) (by simp [results, Tryd.results56, go_sem]) rfl ⟨rfl, f', unhide HHH, unhide HFIN, unhide HRR⟩
    · have e4 : ((i : Int) == (j : Int)) = false := by rw [beq_eq_false_iff_ne]; omega
      by_cases hl : les L (f' j) (f' i) = true
      · rw [hl] at HL
        have HUP : Hid (Up (les L) (Stb.swp f' i j) n i ∧ Re 0 n f (Stb.swp f' i j)) := by
          have h1 : 0 < j := by omega
          have := up_step (les_or L) hU h1 hj (by rw [hi]; exact hl)
          rw [hi] at this
          exact ⟨this, hR.trans (Re.swp f' (Nat.zero_le _) (by omega) (Nat.zero_le _) hj)⟩
        have hij2 : i < j := by omega
        clear hH hU hR hi hd h0 hl
        go_wp2_with fail
        refine (unhide HL).mono ?_
        rintro e w2 ⟨rfl, hb2⟩
        have hH2 := (unhide HHH).keep hb2
        have mS := meth_swap hH2.box.c0
        have HS := hide (pswap_any pp g n cap L f' i j S w0 w2 hH2 (by omega) hj)
        clear hb2 hH2 HL mL
        go_wp2_with fail
        refine (unhide HS).mono ?_
        rintro e w3 ⟨rfl, hH3⟩
        have HH3 := hide hH3
        clear hH3 HS mS
        go_wp2_with fail
        exact ⟨⟨i, _, rfl, by omega, unhide HH3, (unhide HUP).1, (unhide HUP).2⟩, by simp [intOf]; omega⟩
      · have hl' : les L (f' j) (f' i) = false := by simpa using hl
        rw [hl'] at HL
        have HFIN : Hid (Heap (les L) f' n) := up_stop hU (Or.inr (by rw [hi]; exact hl'))
        clear hH hU hR hi hd h0 hl hl'
        go_wp2_with fail
        refine (unhide HL).mono ?_
        rintro e w2 ⟨rfl, hb2⟩
        have HH2 := hide ((unhide HHH).keep hb2)
        clear hb2 HL mL
        go_wp2
        (try simp only [Exit.inBlock, Exit.then])
        (try go_wp2)
        exact bodyPost_end (v := .tuple #[]) (by simp [results, Tryd.results56, go_sem]) rfl ⟨rfl, f', unhide HH2, unhide HFIN, unhide HRR⟩

set_option maxHeartbeats 8000000 in
set_option maxRecDepth 100000 in
set_option linter.unusedSimpArgs false in
theorem down_any (pp g n m cap : Nat) (L : Nat → Int) (f : Nat → Nat) (S : Nat → Prop) (w0 w : World) (h : HP S w0 w pp g n cap L f) (hn : n ≤ 100) (hm : m ≤ n) (hd : Down (les L) f m 0) :
    Calls Tryd.prog 55 #[.iface 74 (.pointer (some ⟨pp, 0, none⟩)), .int .i64 0, .int .i64 (m : Int)] w fun e w' => (∃ b, e = .returned (.bool b)) ∧ HeapPost S w0 pp g n m cap L f w' := by
  have HH := hide h
  have HD := hide hd
  clear h hd
  go_enter Tryd.func55, Tryd.ntmps55
  go_wp2_with fail
  go_loopw [7] (fun vi wr => ∃ (i : Nat) (f' : Nat → Nat), vi = .int .i64 (i : Int) ∧ i ≤ m ∧ HP S w0 wr pp g n cap L f' ∧ Down (les L) f' m i ∧ Re 0 m f f') (fun vi _ => m - (intOf vi).toNat)
  case atStart => exact ⟨0, f, rfl, Nat.zero_le _, unhide HH, unhide HD, Re.refl _ _ _⟩
  case round =>
    obtain ⟨i, f', rfl, hi, hH, hD, hR⟩ := hrel
    have mL := meth_less hH.box.c0
    obtain ⟨t, ht⟩ : ∃ t, 2 * i = t := ⟨_, rfl⟩
    obtain ⟨j1, hj1⟩ : ∃ j, t + 1 = j := ⟨_, rfl⟩
    obtain ⟨j2, hj2⟩ : ∃ j, j1 + 1 = j := ⟨_, rfl⟩
    have e1 : IntKind.i64.wrap (2 * (i : Int)) = (t : Int) := by rw [IntKind.wrap_i64]; omega
    have e2 : IntKind.i64.wrap ((t : Int) + 1) = (j1 : Int) := by rw [IntKind.wrap_i64]; omega
    have e3 : IntKind.i64.wrap ((j1 : Int) + 1) = (j2 : Int) := by rw [IntKind.wrap_i64]; omega
    have HHH := hide hH
    have HRR := hide hR
    have HDD := hide hD
    by_cases h1 : m ≤ j1
    · have e4 : (m : Int) ≤ (j1 : Int) := by omega
      have HFIN : Hid (Heap (les L) f' m) := down_leaf hD (by omega)
      clear hH hD hR mL h1 ht hj1 hj2
      go_wp2
      (try simp only [Exit.inBlock, Exit.then])
      (try go_wp2)
      go_ret
      exact ⟨⟨_, rfl⟩, f', unhide HHH, unhide HFIN, unhide HRR⟩
    · have e4 : ¬ (m : Int) ≤ (j1 : Int) := by omega
      have e5 : ¬ (j1 : Int) < 0 := by omega
      have REST : Hid (∀ (jj : Nat) (W : World), Below wr.heap.size wr W → jj < m → par jj = i → 0 < jj → (∀ c, 0 < c → c < m → par c = i → les L (f' c) (f' jj) = false) →
          (les L (f' jj) (f' i) = true → Down (les L) (Stb.swp f' i jj) m jj ∧ Re 0 m f (Stb.swp f' i jj)) ∧ (les L (f' jj) (f' i) = false → Heap (les L) f' m)) := fun jj W _ h1 h2 h3 h4 => by
        have hii : i < jj := by rw [← h2]; exact par_lt h3
        exact ⟨fun hl => ⟨down_step (les_or L) hD h3 h1 h2 h4 hl, hR.trans (Re.swp f' (Nat.zero_le _) (by omega) (Nat.zero_le _) h1)⟩, fun hl => down_stop (les_or L) hD h4 hl⟩
      by_cases h2 : j2 < m
      · have e6 : (j2 : Int) < (m : Int) := by omega
        have HL1 := hide (pless_any g n cap L f' j2 j1 wr hH.row (by omega) (by omega))
        by_cases hl : les L (f' j2) (f' j1) = true
        · rw [hl] at HL1
          have HKM : Hid (∀ c, 0 < c → c < m → par c = i → les L (f' c) (f' j2) = false) := by
            have := kid_right (les_or L) (f := f') (n := m) (i := i) (by rw [show 2 * i + 2 = j2 by omega, show 2 * i + 1 = j1 by omega]; exact hl)
            rw [show 2 * i + 2 = j2 by omega] at this
            exact this
          have HJ : Hid (j2 < m ∧ par j2 = i ∧ 0 < j2) := ⟨h2, by unfold par; omega, by omega⟩
          clear hH hD hR h1 h2 hl ht hj1 hj2
          go_wp2_with fail
          refine (unhide HL1).mono ?_
          rintro e w2 ⟨rfl, hb2⟩
          have HH2 := hide ((unhide HHH).keep hb2)
          have HB2 := hide hb2
          have mL2 := meth_less (unhide HH2).box.c0
          clear hb2 HL1
          obtain ⟨hj1', hj2', hj3'⟩ := unhide HJ
          have hij' : i < j2 := by rw [← hj2']; exact par_lt hj3'
          obtain ⟨R1, R2⟩ := unhide REST j2 w2 (unhide HB2) hj1' hj2' hj3' (unhide HKM)
          have HR1 := hide R1
          have HR2 := hide R2
          have HL2 := hide (pless_any g n cap L f' j2 i w2 (unhide HH2).row (by omega) (by omega))
          clear R1 R2 hj2' REST HKM HJ
          by_cases hl2 : les L (f' j2) (f' i) = true
          · rw [hl2] at HL2
            have HS : Hid (∀ W, Below w2.heap.size w2 W → (Calls Tryd.prog 92 #[.slice (some ⟨g, 0, none⟩) n cap, .int .i64 (i : Int), .int .i64 (j2 : Int)] W fun e w' => e = .returned (.tuple #[]) ∧ HP S w0 w' pp g n cap L (Stb.swp f' i j2)) ∧ (method 258 74 (.pointer (some ⟨pp, 0, none⟩)) "Swap").run Tryd.prog W = .ok (92, .slice (some ⟨g, 0, none⟩) n cap) W) := fun W hW => ⟨pswap_any pp g n cap L f' i j2 S w0 W ((unhide HH2).keep hW) (by omega) (by omega), meth_swap ((unhide HH2).keep hW).box.c0⟩
            have HDN := hide (unhide HR1 hl2)
            clear hl2 HR1 HR2
            go_wp2_with fail
            refine (unhide HL2).mono ?_
            rintro e w3 ⟨rfl, hb3⟩
            obtain ⟨S1, mS⟩ := unhide HS w3 hb3
            have HS1 := hide S1
            clear S1 HS hb3 HL2 mL
            (try clear mL2)
            go_wp2_with fail
            refine (unhide HS1).mono ?_
            rintro e w4 ⟨rfl, hH4⟩
            have HH4 := hide hH4
            clear hH4 HS1 mS
            go_wp2_with fail
            exact ⟨⟨j2, _, rfl, by omega, unhide HH4, (unhide HDN).1, (unhide HDN).2⟩, by simp [intOf]; omega⟩
          · have hl2' : les L (f' j2) (f' i) = false := by simpa using hl2
            rw [hl2'] at HL2
            have HFIN := hide (unhide HR2 hl2')
            clear hl2 hl2' HR1 HR2
            go_wp2_with fail
            refine (unhide HL2).mono ?_
            rintro e w3 ⟨rfl, hb3⟩
            have HH3 := hide ((unhide HH2).keep hb3)
            clear hb3 HL2 mL
            (try clear mL2)
            go_wp2
            (try simp only [Exit.inBlock, Exit.then])
            (try go_wp2)
            go_ret
            exact ⟨⟨_, rfl⟩, f', unhide HH3, unhide HFIN, unhide HRR⟩
        · have hl' : les L (f' j2) (f' j1) = false := by simpa using hl
          rw [hl'] at HL1
          have HKM : Hid (∀ c, 0 < c → c < m → par c = i → les L (f' c) (f' j1) = false) := by
            have := kid_left (les_or L) (f := f') (n := m) (i := i) (fun _ => by rw [show 2 * i + 2 = j2 by omega, show 2 * i + 1 = j1 by omega]; exact hl')
            rw [show 2 * i + 1 = j1 by omega] at this
            exact this
          have HJ : Hid (j1 < m ∧ par j1 = i ∧ 0 < j1) := ⟨by omega, by unfold par; omega, by omega⟩
          clear hH hD hR h1 h2 hl hl' ht hj1 hj2
          go_wp2_with fail
          refine (unhide HL1).mono ?_
          rintro e w2 ⟨rfl, hb2⟩
          have HH2 := hide ((unhide HHH).keep hb2)
          have HB2 := hide hb2
          have mL2 := meth_less (unhide HH2).box.c0
          clear hb2 HL1
          obtain ⟨hj1', hj2', hj3'⟩ := unhide HJ
          have hij' : i < j1 := by rw [← hj2']; exact par_lt hj3'
          obtain ⟨R1, R2⟩ := unhide REST j1 w2 (unhide HB2) hj1' hj2' hj3' (unhide HKM)
          have HR1 := hide R1
          have HR2 := hide R2
          have HL2 := hide (pless_any g n cap L f' j1 i w2 (unhide HH2).row (by omega) (by omega))
          clear R1 R2 hj2' REST HKM HJ
          by_cases hl2 : les L (f' j1) (f' i) = true
          · rw [hl2] at HL2
            have HS : Hid (∀ W, Below w2.heap.size w2 W → (Calls Tryd.prog 92 #[.slice (some ⟨g, 0, none⟩) n cap, .int .i64 (i : Int), .int .i64 (j1 : Int)] W fun e w' => e = .returned (.tuple #[]) ∧ HP S w0 w' pp g n cap L (Stb.swp f' i j1)) ∧ (method 258 74 (.pointer (some ⟨pp, 0, none⟩)) "Swap").run Tryd.prog W = .ok (92, .slice (some ⟨g, 0, none⟩) n cap) W) := fun W hW => ⟨pswap_any pp g n cap L f' i j1 S w0 W ((unhide HH2).keep hW) (by omega) (by omega), meth_swap ((unhide HH2).keep hW).box.c0⟩
            have HDN := hide (unhide HR1 hl2)
            clear hl2 HR1 HR2
            go_wp2_with fail
            refine (unhide HL2).mono ?_
            rintro e w3 ⟨rfl, hb3⟩
            obtain ⟨S1, mS⟩ := unhide HS w3 hb3
            have HS1 := hide S1
            clear S1 HS hb3 HL2 mL
            (try clear mL2)
            go_wp2_with fail
            refine (unhide HS1).mono ?_
            rintro e w4 ⟨rfl, hH4⟩
            have HH4 := hide hH4
            clear hH4 HS1 mS
            go_wp2_with fail
            exact ⟨⟨j1, _, rfl, by omega, unhide HH4, (unhide HDN).1, (unhide HDN).2⟩, by simp [intOf]; omega⟩
          · have hl2' : les L (f' j1) (f' i) = false := by simpa using hl2
            rw [hl2'] at HL2
            have HFIN := hide (unhide HR2 hl2')
            clear hl2 hl2' HR1 HR2
            go_wp2_with fail
            refine (unhide HL2).mono ?_
            rintro e w3 ⟨rfl, hb3⟩
            have HH3 := hide ((unhide HH2).keep hb3)
            clear hb3 HL2 mL
            (try clear mL2)
            go_wp2
            (try simp only [Exit.inBlock, Exit.then])
            (try go_wp2)
            go_ret
            exact ⟨⟨_, rfl⟩, f', unhide HH3, unhide HFIN, unhide HRR⟩
      · have e6 : ¬ (j2 : Int) < (m : Int) := by omega
        have HKM : Hid (∀ c, 0 < c → c < m → par c = i → les L (f' c) (f' j1) = false) := by
          have := kid_left (les_or L) (f := f') (n := m) (i := i) (fun h => by omega)
          rw [show 2 * i + 1 = j1 by omega] at this
          exact this
        have HJ : Hid (j1 < m ∧ par j1 = i ∧ 0 < j1) := ⟨by omega, by unfold par; omega, by omega⟩
        clear hD hR h1 h2 ht hj1 hj2 hH
        obtain ⟨hj1', hj2', hj3'⟩ := unhide HJ
        have hij' : i < j1 := by rw [← hj2']; exact par_lt hj3'
        obtain ⟨R1, R2⟩ := unhide REST j1 wr (Below.refl _ _) hj1' hj2' hj3' (unhide HKM)
        have HR1 := hide R1
        have HR2 := hide R2
        have HL2 := hide (pless_any g n cap L f' j1 i wr (unhide HHH).row (by omega) (by omega))
        clear R1 R2 hj2' REST HKM HJ
        by_cases hl2 : les L (f' j1) (f' i) = true
        · rw [hl2] at HL2
          have HS : Hid (∀ W, Below wr.heap.size wr W → (Calls Tryd.prog 92 #[.slice (some ⟨g, 0, none⟩) n cap, .int .i64 (i : Int), .int .i64 (j1 : Int)] W fun e w' => e = .returned (.tuple #[]) ∧ HP S w0 w' pp g n cap L (Stb.swp f' i j1)) ∧ (method 258 74 (.pointer (some ⟨pp, 0, none⟩)) "Swap").run Tryd.prog W = .ok (92, .slice (some ⟨g, 0, none⟩) n cap) W) := fun W hW => ⟨pswap_any pp g n cap L f' i j1 S w0 W ((unhide HHH).keep hW) (by omega) (by omega), meth_swap ((unhide HHH).keep hW).box.c0⟩
          have HDN := hide (unhide HR1 hl2)
          clear hl2 HR1 HR2
          go_wp2_with fail
          refine (unhide HL2).mono ?_
          rintro e w3 ⟨rfl, hb3⟩
          obtain ⟨S1, mS⟩ := unhide HS w3 hb3
          have HS1 := hide S1
          clear S1 HS hb3 HL2 mL
          (try clear mL2)
          go_wp2_with fail
          refine (unhide HS1).mono ?_
          rintro e w4 ⟨rfl, hH4⟩
          have HH4 := hide hH4
          clear hH4 HS1 mS
          go_wp2_with fail
          exact ⟨⟨j1, _, rfl, by omega, unhide HH4, (unhide HDN).1, (unhide HDN).2⟩, by simp [intOf]; omega⟩
        · have hl2' : les L (f' j1) (f' i) = false := by simpa using hl2
          rw [hl2'] at HL2
          have HFIN := hide (unhide HR2 hl2')
          clear hl2 hl2' HR1 HR2
          go_wp2_with fail
          refine (unhide HL2).mono ?_
          rintro e w3 ⟨rfl, hb3⟩
          have HH3 := hide ((unhide HHH).keep hb3)
          clear hb3 HL2 mL
          (try clear mL2)
          go_wp2
          (try simp only [Exit.inBlock, Exit.then])
          (try go_wp2)
          go_ret
          exact ⟨⟨_, rfl⟩, f', unhide HH3, unhide HFIN, unhide HRR⟩
end Go.Proofs.YtepgdlgifempeaaDoor
