/- What the document's answers are held against; numbers put in order one by one. -/
import Derived.Test.YtepgdlgifempeaaDoorY21
import Derived.Test.YtepgdlgifempeaaDoorT1
import Derived.Deep.RegionLaw
namespace Go.Proofs.YtepgdlgifempeaaDoor
open Go.RowKit Go.Sort Stb

theorem drew2 (w : World) (a b : Nat) : ∃ k, (w.drewN a).drewN b = w.drewN k := ⟨a + b, by simp⟩
/-- Two rows of numbers are alike. -/
def likeB (n m : Nat) (f g : Nat → Int) : Bool := decide (n = m ∧ ∀ i, i < n → f i = g i)
theorem likeB_true {n m : Nat} {f g : Nat → Int} : likeB n m f g = true ↔ n = m ∧ ∀ i, i < n → f i = g i := by unfold likeB; exact decide_eq_true_iff
theorem likeB_false {n m : Nat} {f g : Nat → Int} : likeB n m f g = false ↔ ¬ (n = m ∧ ∀ i, i < n → f i = g i) := by unfold likeB; exact decide_eq_false_iff_not
set_option maxHeartbeats 1000000 in
theorem lawSame_any (a a' : Option Addr) (n c n' c' : Nat) (f g : Nat → Int) (w : World) (ha : IRow w a n c f) (hb : IRow w a' n' c' g) :
    Calls Tryd.prog 37 #[.slice a n c, .slice a' n' c'] w fun e w' => e = .returned (.bool (likeB n n' f g)) ∧ ∃ k, w' = w.drewN k := by
  obtain ⟨h1, h2, h3⟩ := ha
  obtain ⟨h1', h2', h3'⟩ := hb
  by_cases hne : n = n'
  · subst hne
    have HE : Hid ((∀ i, i < n → f i = g i) → likeB n n f g = true) := fun h => likeB_true.2 ⟨rfl, h⟩
    have HN : Hid (∀ i, i < n → f i ≠ g i → likeB n n f g = false) := fun i hi h => likeB_false.2 fun ⟨_, h'⟩ => h (h' i hi)
    generalize likeB n n f g = s at *
    have H3 := hide h3
    have H3' := hide h3'
    clear h3 h3'
    go_enter Tryd.func37, Tryd.ntmps37
    go_wp2
    go_loopw [5] (fun v wr => ∃ m k : Nat, v = .int .i64 (m : Int) ∧ m ≤ n ∧ wr = w.drewN k ∧ (∀ j, j < m → f j = g j)) (fun v _ => n - (intOf v).toNat)
    case atStart => exact ⟨0, 0, rfl, Nat.zero_le _, rfl, fun j h1 => absurd h1 (Nat.not_lt_zero _)⟩
    case round =>
      obtain ⟨m, k, rfl, hm, rfl, hz⟩ := hrel
      have HZ : Hid (∀ j, j < m → f j = g j) := hz
      clear hz
      by_cases hlt : m < n
      · obtain ⟨b, o, rfl, hbl, hc⟩ := unhide H3 (by omega)
        obtain ⟨b', o', rfl, hbl', hc'⟩ := unhide H3' (by omega)
        obtain ⟨x, hx⟩ : ∃ x, f m = x := ⟨_, rfl⟩
        obtain ⟨y, hy⟩ : ∃ y, g m = y := ⟨_, rfl⟩
        have hcm := hc m hlt
        have hcm' := hc' m hlt
        have HX : Hid (f m = x) := hx
        have HY : Hid (g m = y) := hy
        rw [hx] at hcm
        rw [hy] at hcm'
        have e2 : (0 : Int) ≤ (m : Int) := by omega
        have e3 : (m : Int) < (n : Int) := by omega
        clear hc hc' H3 H3' hx hy
        by_cases hxy : x = y
        · subst hxy
          clear HE HN
          go_wp2_with fail
          go_quiet (fail)
          go_wp2
          refine ⟨⟨m + 1, k + nq, by go_num, by omega, rfl, fun j h1 => ?_⟩, ?_⟩
          · rcases Nat.lt_or_ge j m with h | h
            · exact HZ.out j h
            · rw [show j = m by omega, HX.out, HY.out]
          · simp [intOf]; omega
        · have hxb : (x != y) = true := by rw [bne_iff_ne]; exact hxy
          have hs : s = false := HN.out m hlt (by rw [HX.out, HY.out]; exact hxy)
          subst hs
          clear HE HN
          go_wp2_with fail
          go_quiet (fail)
          go_wp2
          go_ret
          exact ⟨rfl, drew2 _ _ _⟩
      · obtain rfl : m = n := by omega
        have hs : s = true := HE.out HZ.out
        subst hs
        clear HE HN H3 H3'
        go_wp2
        go_ret
        exact ⟨rfl, k, rfl⟩
  · have hs : likeB n n' f g = false := likeB_false.2 fun h => hne h.1
    rw [hs]
    clear hs h3 h3'
    have hne : ((n : Int) != (n' : Int)) = true := by rw [bne_iff_ne]; omega
    go_enter Tryd.func37, Tryd.ntmps37
    go_wp2
    go_ret
    exact ⟨rfl, 0, rfl⟩
set_option maxHeartbeats 2000000 in
theorem ints_good (G a' : Option Addr) (n c c' : Nat) (F : Nat → Int) (w : World) (ha : IRow w G n c F) (hb : IRow w a' n c' F) :
    Calls Tryd.prog 17 #[.slice G n c, .nilIface, .slice a' n c', .int .i64 0] w fun e w' => e = .returned (.bool true) ∧ Below w.heap.size w w' := by
  have HS := hide (lawSame_any G a' n c n c' F F w ha hb)
  rw [likeB_true.2 ⟨rfl, fun _ _ => rfl⟩] at HS
  clear ha hb
  go_enter Tryd.func17, Tryd.ntmps17
  go_wp2_with fail
  refine (unhide HS).mono ?_
  rintro e w1 ⟨rfl, q, rfl⟩
  go_wp2
  go_ret
  exact ⟨rfl, below_drewN _ _⟩
set_option maxHeartbeats 2000000 in
theorem ints_bad (k : Int) (hk : k ≠ 0) (w : World) (hg : ErrTy w) :
    Calls Tryd.prog 17 #[.slice none 0 0, .iface 26 (.int .i64 k), .slice none 0 0, .int .i64 k] w fun e w' => e = .returned (.bool true) ∧ Below w.heap.size w w' := by
  have HT := hide (tell_errno k w hg)
  clear hg
  go_enter Tryd.func17, Tryd.ntmps17
  go_wp2_with fail
  refine (unhide HT).mono ?_
  rintro e w1 ⟨rfl, hb⟩
  go_wp2
  go_ret
  exact ⟨rfl, hb⟩
set_option maxHeartbeats 2000000 in
theorem whole_good (x : Int) (w : World) :
    Calls Tryd.prog 14 #[.int .i64 x, .nilIface, .int .i64 x, .int .i64 0] w fun e w' => e = .returned (.bool true) ∧ Below w.heap.size w w' := by
  have e0 : (x == x) = true := by simp
  go_enter Tryd.func14, Tryd.ntmps14
  go_wp2
  go_ret
  exact ⟨rfl, Below.refl _ _⟩
set_option maxHeartbeats 2000000 in
theorem whole_bad (y k : Int) (hk : k ≠ 0) (w : World) (hg : ErrTy w) :
    Calls Tryd.prog 14 #[.int .i64 0, .iface 26 (.int .i64 k), .int .i64 y, .int .i64 k] w fun e w' => e = .returned (.bool true) ∧ Below w.heap.size w w' := by
  have HT := hide (tell_errno k w hg)
  clear hg
  go_enter Tryd.func14, Tryd.ntmps14
  go_wp2_with fail
  refine (unhide HT).mono ?_
  rintro e w1 ⟨rfl, hb⟩
  go_wp2
  go_ret
  exact ⟨rfl, hb⟩
set_option maxHeartbeats 4000000 in
theorem rorder_any (a : Option Addr) (len c : Nat) (r : Nat → Int) (n : Int) (w : World) (ha : IRow w a len c r) (hlen : len ≤ 100000) :
    Calls Tryd.prog 11 #[.slice a len c, .int .i64 n] w fun e w' => e = .returned (.int .i64 (ocode r len n)) ∧ Below w.heap.size w w' := by
  obtain ⟨h1, h2, h3⟩ := ha
  have H3 := hide h3
  clear h3
  by_cases hne : (len : Int) = n
  case neg =>
    have hv : ocode r len n = 3 := by unfold ocode; rw [if_pos hne]
    rw [hv]
    have e0 : ((len : Int) == n) = false := by simpa using hne
    go_enter Tryd.func11, Tryd.ntmps11
    go_wp2
    go_ret
    exact ⟨rfl, Below.refl _ _⟩
  subst hne
  have hv0 : ocode r len len = oc r len len := by unfold ocode; rw [if_neg (by simp)]
  rw [hv0]
  obtain ⟨V, hV⟩ : ∃ v, oc r len len = v := ⟨_, rfl⟩
  have HV := hide hV
  rw [hV]
  clear hv0 hV
  have e00 : ((len : Int) == (len : Int)) = true := by simp
  go_enter Tryd.func11, Tryd.ntmps11
  go_wp2_with fail
  clear e00
  go_loopw [15] (fun vi wr => ∃ m : Nat, vi = .int .i64 (m : Int) ∧ m ≤ len ∧ oc r len m = 0 ∧ Below w.heap.size w wr) (fun vi _ => len - (intOf vi).toNat)
  case atStart => exact ⟨0, rfl, Nat.zero_le _, rfl, Below.refl _ _⟩
  case round =>
    obtain ⟨m, rfl, hm, hj, hb⟩ := hrel
    by_cases hlt : m < len
    · obtain ⟨b, o, rfl, hbl, hc⟩ := unhide H3 (by omega)
      have HC := hide hc
      have k0 := hc m hlt
      rw [← hb.cell (p := ⟨b, o + m, none⟩) hbl] at k0
      obtain ⟨x, hx⟩ : ∃ x, r m = x := ⟨_, rfl⟩
      rw [hx] at k0
      have e2 : (0 : Int) ≤ (m : Int) := by omega
      have e3 : (m : Int) < (len : Int) := by omega
      have HB := hide hb
      have HJ := hide hj
      have HX := hide hx
      have mc : m ≤ c := by omega
      clear hc H3 hb hj hx
      by_cases g0 : x < 0
      · obtain rfl : V = 2 := by have := oc_end (oc_range (unhide HJ) (by rw [unhide HX]; omega)) (by decide) hlt; have h2 := unhide HV; omega
        go_wp2
        go_ret
        exact ⟨rfl, unhide HB⟩
      by_cases g1 : (len : Int) ≤ x
      · obtain rfl : V = 2 := by have := oc_end (oc_range (unhide HJ) (by rw [unhide HX]; omega)) (by decide) hlt; have h2 := unhide HV; omega
        go_wp2
        go_ret
        exact ⟨rfl, unhide HB⟩
      have e6 : IntKind.i64.wrap ((m : Int) + 1) = (m : Int) + 1 := by rw [IntKind.wrap_i64]; omega
      go_wp2_with fail
      go_loopw [31] (fun vi wv => ∃ j : Nat, vi = .int .i64 (j : Int) ∧ j ≤ m ∧ (∀ i, i < j → r i ≠ x) ∧ wv = wr) (fun vi _ => m - (intOf vi).toNat)
      case atStart => exact ⟨0, rfl, Nat.zero_le _, fun i hi => absurd hi (Nat.not_lt_zero _), rfl⟩
      case round =>
        obtain ⟨j, rfl, hjm, hall, rfl⟩ := hrel
        by_cases hjl : j < m
        · have kj := unhide HC j (by omega)
          rw [← (unhide HB).cell (p := ⟨b, o + j, none⟩) (Nat.lt_of_lt_of_le (World.block_lt_of_cell? w _ kj) (Nat.le_refl _))] at kj
          obtain ⟨y, hy⟩ : ∃ y, r j = y := ⟨_, rfl⟩
          rw [hy] at kj
          have HY := hide hy
          have HALL := hide hall
          have f2 : (0 : Int) ≤ (j : Int) := by omega
          have f3 : (j : Int) < (m : Int) := by omega
          have f6 : IntKind.i64.wrap ((j : Int) + 1) = (j : Int) + 1 := by rw [IntKind.wrap_i64]; omega
          clear hy hall
          by_cases hxy : x = y
          · obtain rfl : V = 9 := by
              have h := oc_end (oc_many (unhide HJ) (by rw [unhide HX]; omega) (stood_true.2 ⟨j, hjl, by rw [unhide HX, unhide HY]; exact hxy.symm⟩)) (by decide) hlt
              have h2 := unhide HV; omega
            subst hxy
            have q1 : (x == x) = true := by simp
            go_wp2
            go_ret
            exact ⟨rfl, unhide HB⟩
          · have q1 : (x == y) = false := by simpa using hxy
            go_wp2
            refine ⟨⟨j + 1, by go_num, hjl, fun i hi => ?_, by trivial⟩, by simp [intOf]; omega⟩
            rcases Nat.lt_or_ge i j with c1 | c1
            · exact unhide HALL i c1
            · rw [show i = j by omega, unhide HY]; exact fun e => hxy e.symm
        · obtain rfl : j = m := by omega
          have f3 : ¬ (j : Int) < (j : Int) := by omega
          have HJ' : Hid (oc r len (j + 1) = 0) := by
            refine oc_good (unhide HJ) (by rw [unhide HX]; omega) ?_
            cases cs : stood r j (r j) with
            | false => rfl
            | true =>
              obtain ⟨i, h1, h2⟩ := stood_true.1 cs
              rw [unhide HX] at h2
              exact absurd h2 (hall i h1)
          clear hall
          go_wp2_with fail
          (try simp only [Exit.inBlock, Exit.then])
          (try go_wp2_with fail)
          exact ⟨⟨j + 1, by go_num, hlt, unhide HJ', unhide HB⟩, by simp [intOf]; omega⟩
    · obtain rfl : m = len := by omega
      obtain rfl : V = 0 := by have h2 := unhide HV; omega
      clear hj
      have e3 : ¬ (m : Int) < (m : Int) := by omega
      go_wp2
      go_ret
      exact ⟨rfl, hb⟩
theorem mem_get {xs : List Nat} {j : Nat} (hj : j < xs.length) : xs[j]! ∈ xs := by rw [getElem!_pos xs j hj]; exact List.getElem_mem _
def lI (L : List Nat) : Nat → Int := fun j => ((L[j]! : Nat) : Int)
theorem OwnN.irowL {w : World} {B : Nat} {v : Value} {xs : List Nat} (h : OwnN w B v xs) : ∃ a c, v = .slice a xs.length c ∧ IRow w a xs.length c (lI xs) := by
  obtain ⟨a, c, e, h1, h2, h3⟩ := OwnL.irow h
  rw [List.length_map] at e h1 h3
  refine ⟨a, c, e, h1, h2, fun hp => ?_⟩
  obtain ⟨b, o, e1, e2, e3⟩ := h3 hp
  refine ⟨b, o, e1, e2, fun j hj => ?_⟩
  rw [e3 j hj]
  show some (Value.int .i64 (xs.map (fun x => ((x : Nat) : Int)))[j]!) = _
  rw [getN xs hj]
  rfl
theorem one_ints (xs : List Int) : ∀ u ∈ xs.map (Value.int .i64 ·), u.oneCell' = true := by
  intro u hu
  obtain ⟨x, _, rfl⟩ := List.mem_map.1 hu
  rfl
/-- Rows in order that hold the same are the same. -/
theorem sorted_unique {R : Nat → Nat → Prop} : ∀ (xs ys : List Nat), xs.Perm ys → xs.Pairwise R → ys.Pairwise R → (∀ x ∈ xs, ∀ y ∈ xs, R x y → ¬ R y x) → xs = ys
  | [], ys, h, _, _, _ => (List.nil_perm.1 h).symm
  | x :: xs, [], h, _, _, _ => absurd (List.perm_nil.1 h) (by simp)
  | x :: xs, y :: ys, h, h1, h2, ha => by
    have h1' := List.pairwise_cons.1 h1
    have h2' := List.pairwise_cons.1 h2
    have e : x = y := by
      rcases List.mem_cons.1 (h.subset (List.mem_cons_self ..)) with c | c
      · exact c
      · rcases List.mem_cons.1 (h.symm.subset (List.mem_cons_self ..)) with d | d
        · exact d.symm
        · exact absurd (h2'.1 x c) (ha x (List.mem_cons_self ..) y (List.mem_cons_of_mem _ d) (h1'.1 y d))
    subst e
    rw [sorted_unique xs ys h.cons_inv h1'.2 h2'.2 (fun a ha' b hb => ha a (List.mem_cons_of_mem _ ha') b (List.mem_cons_of_mem _ hb))]
theorem lo_asym {n : Nat} {lt : Nat → Nat → Bool} (W : Wo n lt) {x y : Nat} (hx : x < n) (hy : y < n) (h1 : Lo lt x y) : ¬ Lo lt y x := fun h2 => W.irr hx (W.trans hx hy hx h1 h2)
/-- One more put where it belongs. -/
def putAt (xs : List Nat) (k x : Nat) : List Nat := xs.take k ++ x :: xs.drop k
theorem putAt_length (xs : List Nat) {k : Nat} (x : Nat) (hk : k ≤ xs.length) : (putAt xs k x).length = xs.length + 1 := by unfold putAt; simp; omega
theorem putAt_perm (xs : List Nat) (k x : Nat) : (putAt xs k x).Perm (x :: xs) := by
  unfold putAt
  refine List.perm_middle.trans ?_
  rw [List.take_append_drop]
theorem putAt_sorted {n : Nat} {lt : Nat → Nat → Bool} (W : Wo n lt) {xs : List Nat} {k x : Nat} (hx : x < n) (hxs : ∀ y ∈ xs, y < x) (hs : xs.Pairwise (Lo lt)) (hk : k ≤ xs.length) (h1 : ∀ j, k ≤ j → j < xs.length → lt x xs[j]! = true) (h2 : 0 < k → lt x xs[k - 1]! = false) : (putAt xs k x).Pairwise (Lo lt) := by
  have hget : ∀ i j, i < j → j < xs.length → Lo lt xs[i]! xs[j]! := fun i j hij hj => by
    rw [getElem!_pos xs i (by omega), getElem!_pos xs j hj]
    exact List.pairwise_iff_getElem.1 hs i j (by omega) hj hij
  have hlt : ∀ i, i < xs.length → xs[i]! < x := fun i hi => hxs _ (mem_get hi)
  have hlo : ∀ i, i < k → Lo lt xs[i]! x := fun i hi => by
    have hl : Lo lt xs[k - 1]! x := Or.inr ⟨h2 (by omega), hlt _ (by omega)⟩
    by_cases c : i = k - 1
    · rw [c]; exact hl
    · exact W.trans (Nat.lt_trans (hlt i (by omega)) hx) (Nat.lt_trans (hlt (k - 1) (by omega)) hx) hx (hget i (k - 1) (by omega) (by omega)) hl
  unfold putAt
  rw [List.pairwise_append]
  refine ⟨hs.sublist (List.take_sublist _ _), ?_, fun a ha b hb => ?_⟩
  · rw [List.pairwise_cons]
    refine ⟨fun b hb => ?_, hs.sublist (List.drop_sublist _ _)⟩
    obtain ⟨j, hj, e⟩ := List.mem_iff_getElem.1 hb
    rw [List.length_drop] at hj
    rw [List.getElem_drop] at e
    rw [← e, ← getElem!_pos xs (k + j) (by omega)]
    exact Or.inl (h1 (k + j) (by omega) (by omega))
  · obtain ⟨i, hi, e⟩ := List.mem_iff_getElem.1 ha
    rw [List.length_take] at hi
    rw [List.getElem_take] at e
    rw [← e, ← getElem!_pos xs i (by omega)]
    rcases List.mem_cons.1 hb with c | c
    · rw [c]; exact hlo i (by omega)
    · obtain ⟨j, hj, e2⟩ := List.mem_iff_getElem.1 c
      rw [List.length_drop] at hj
      rw [List.getElem_drop] at e2
      rw [← e2, ← getElem!_pos xs (k + j) (by omega)]
      exact hget i (k + j) (by omega) (by omega)
def cI (xs : List Nat) : List Value := (xs.map (fun x => ((x : Nat) : Int))).map (Value.int .i64 ·)
theorem cI_get (xs : List Nat) (j : Nat) : (cI xs)[j]? = (xs[j]?).map (fun x => Value.int .i64 ((x : Nat) : Int)) := by unfold cI; rw [List.getElem?_map, List.getElem?_map]; cases xs[j]? <;> rfl
theorem cI_length (xs : List Nat) : (cI xs).length = xs.length := by unfold cI; simp
/-- The cells behind the copy and the store. -/
theorem put_cells {cur : List Value} {xs : List Nat} {k x : Nat} (hk : k ≤ xs.length) (hl : xs.length + 1 ≤ cur.length) (hc : cur.take (xs.length + 1) = cI (xs ++ [0])) :
    (((splice cur (k + 1) (cI (xs.drop k))).set k (.int .i64 ((x : Nat) : Int))).take (xs.length + 1)) = cI (putAt xs k x) := by
  have hcur : ∀ j, j < xs.length → cur[j]? = (xs[j]?).map (fun x => Value.int .i64 ((x : Nat) : Int)) := fun j hj => by
    have e : (cur.take (xs.length + 1))[j]? = (cI (xs ++ [0]))[j]? := by rw [hc]
    rw [List.getElem?_take_of_lt (by omega), cI_get, List.getElem?_append_left hj] at e
    exact e
  have hdl : (cI (xs.drop k)).length = xs.length - k := by rw [cI_length, List.length_drop]
  apply List.ext_getElem?
  intro j
  by_cases hj : j < xs.length + 1
  · rw [List.getElem?_take_of_lt hj, cI_get]
    unfold putAt
    have htl : (xs.take k).length = k := by rw [List.length_take]; omega
    by_cases c1 : j < k
    · rw [List.getElem?_append_left (by omega), List.getElem?_take_of_lt c1, List.getElem?_set_ne (by omega)]
      unfold splice
      rw [List.getElem?_append_left (by simp; omega), List.getElem?_take_of_lt (by omega), hcur j (by omega)]
    · by_cases c2 : j = k
      · subst c2
        rw [List.getElem?_append_right (by omega), htl, Nat.sub_self, List.getElem?_set_self (by rw [length_splice _ _ _ (by rw [hdl]; omega)]; omega)]
        rfl
      · rw [List.getElem?_append_right (by omega), htl, List.getElem?_set_ne (by omega)]
        unfold splice
        rw [List.getElem?_append_right (by simp; omega), List.getElem?_append_left (by rw [hdl, List.length_take]; omega), cI_get, List.length_take, List.getElem?_drop]
        rw [show j - k = (j - k - 1) + 1 by omega, List.getElem?_cons_succ, List.getElem?_drop, show j - min (k + 1) cur.length = j - k - 1 by omega]
  · rw [List.getElem?_eq_none (by rw [List.length_take]; omega), List.getElem?_eq_none (by rw [cI_length, putAt_length _ _ hk]; omega)]
theorem Tryd.sizeI : (Tryd.prog.info? 3).map (·.size) = some 1 := by kernel_rfl
/-- What Insert leaves. -/
def InsPost (w : World) (n : Nat) (lt : Nat → Nat → Bool) (e : Ending) (w' : World) : Prop :=
  Below w.heap.size w w' ∧ ∃ (v : Value) (L : List Nat), e = .returned v ∧ OwnN w' w.heap.size v L ∧ L.Perm (List.range n) ∧ L.Pairwise (Lo lt)
theorem news_zero (w : World) (T : TypeId) : ∀ j u, [Value.int .i64 0][j]? = some u → (w.alloc (.cells #[.int .i64 0] T)).cell? ((⟨w.heap.size, 0, none⟩ : Addr).add j) = some u := news_int w 0 T
set_option maxHeartbeats 8000000 in
set_option maxRecDepth 100000 in
set_option linter.unusedSimpArgs false in
theorem insert_any (n pl fk : Nat) (heg : ∀ args w, (callFunc fk args).run Tryd.prog w = .ok (.enter fk args) w) (lt : Nat → Nat → Bool) (W0 : Wo n lt) (hn : n ≤ 60) (w : World)
    (HCL : ∀ (i k : Nat) (W : World), i < n → k < n → Below w.heap.size w W → Calls Tryd.prog fk #[.int .i64 (i : Int), .int .i64 (k : Int), .pointer (some ⟨pl, 0, none⟩)] W fun e w' => e = .returned (.bool (lt k i)) ∧ Below W.heap.size W w') :
    Calls Tryd.prog 31 #[.int .i64 (n : Int), .func (.func fk) #[] #[.pointer (some ⟨pl, 0, none⟩)]] w (InsPost w n lt) := by
  obtain ⟨ti, hi, hz0, hz1, hz2⟩ := info_parts Tryd.infoI
  have HI := hide hi
  have HZ := hide hz0
  have HW := hide W0
  have HCC := hide HCL
  clear hi hz0 W0 HCL
  go_enter Tryd.func31, Tryd.ntmps31
  go_wp2_with fail
  go_loopw [5, 9] (fun vo vi wr => ∃ (x : Nat) (xs : List Nat), vi = .int .i64 (x : Int) ∧ x ≤ n ∧ OwnN wr w.heap.size vo xs ∧ xs.Perm (List.range x) ∧ xs.Pairwise (Lo lt) ∧ Below w.heap.size w wr) (fun _ vi _ => n - (intOf vi).toNat)
  case atStart => exact ⟨0, [], rfl, Nat.zero_le _, OwnL.start _ _, List.Perm.refl _, List.Pairwise.nil, Below.refl _ _⟩
  case round =>
    obtain ⟨x, xs, rfl, hx, hO, hpm, hsr, hb⟩ := hrel
    have HPM := hide hpm
    have HSR := hide hsr
    have hln : xs.length = x := by have := hpm.length_eq; simpa using this
    by_cases hlt : x < n
    · obtain ⟨av, cv, rfl, hir⟩ := OwnN.irowL hO
      rw [hln] at hir ⊢
      have HO := hide hO
      have HIR := hide hir
      have HLN := hide hln
      have HB := hide hb
      have e1 : (x : Int) < (n : Int) := by omega
      have hvc := hir.1
      have hvc2 := hir.2.1
      clear hO hir hln hb hpm hsr
      go_wp2_with fail
      go_loopw [7] (fun vt wv => ∃ k : Nat, vt = .int .i64 (k : Int) ∧ k ≤ x ∧ (∀ j, k ≤ j → j < x → lt x xs[j]! = true) ∧ Below wr.heap.size wr wv) (fun vt _ => (intOf vt).toNat)
      case atStart => exact ⟨x, rfl, Nat.le_refl _, fun j h1 h2 => by omega, Below.refl _ _⟩
      case round =>
        obtain ⟨wo, hwo⟩ : ∃ W, W = wr := ⟨_, rfl⟩
        obtain ⟨k, rfl, hk, hall, hbv⟩ := hrel
        have HALL := hide hall
        have HBV := hide hbv
        have hln := unhide HLN
        clear hall hwo wo
        by_cases hk0 : 0 < k
        · obtain ⟨m, hm⟩ : ∃ m, k = m + 1 := ⟨k - 1, by omega⟩
          obtain ⟨b, o, rfl, hbl, hc⟩ := (unhide HIR).2.2 (by omega)
          have c0 := hc m (by omega)
          rw [← hbv.cell (p := ⟨b, o + m, none⟩) hbl] at c0
          have hmn : xs[m]! < n := by
            have h := (unhide HPM).subset (mem_get (xs := xs) (j := m) (by omega))
            have := List.mem_range.1 h
            omega
          unfold lI at c0
          obtain ⟨y, hy⟩ : ∃ y, xs[m]! = y := ⟨_, rfl⟩
          rw [hy] at c0 hmn
          have HCA := hide (unhide HCC y x wr hmn hlt (below_step (unhide HB) hbv))
          have HY := hide hy
          have HM := hide hm
          have d1 : (0 : Int) < (k : Int) := by omega
          have d2 : IntKind.i64.wrap ((k : Int) - 1) = (m : Int) := by rw [IntKind.wrap_i64]; omega
          have d3 : (0 : Int) ≤ (m : Int) := by omega
          have d4 : (m : Int) < (x : Int) := by omega
          have dk : decide (0 < k) = true := decide_eq_true hk0
          have HK := hide hk
          clear hc hbv hy hm hmn hln hk hk0
          by_cases hl : lt x y = true
          · rw [hl] at HCA
            have HL := hide hl
            clear hl
            go_wp2_with fail
            refine (unhide HCA).mono ?_
            rintro e w3 ⟨rfl, hb3⟩
            have HB3 := hide (below_step (unhide HBV) hb3)
            clear hb3 HCA
            go_wp2_with fail
            have hm := unhide HM
            have hk := unhide HK
            refine ⟨⟨m, by go_num, by omega, fun j h1 h2 => ?_, unhide HB3⟩, by simp [intOf]; omega⟩
            rcases Nat.lt_or_ge m j with c1 | c1
            · exact unhide HALL j (by omega) h2
            · rw [show j = m by omega, unhide HY]; exact unhide HL
          · have hl' : lt x y = false := by simpa using hl
            rw [hl'] at HCA
            have HEND : Hid (0 < k → lt x xs[k - 1]! = false) := fun _ => by
              have hm := unhide HM
              rw [show k - 1 = m by omega, unhide HY]; exact hl'
            clear hl hl'
            go_wp2_with fail
            refine (unhide HCA).mono ?_
            rintro e w3 ⟨rfl, hb3⟩
            have HB3 := hide (below_step (unhide HBV) hb3)
            clear hb3 HCA d1 d2 d3 d4 dk HY HM c0
            have hk := unhide HK
            have hln := unhide HLN
            have HBX := hide (below_step (unhide HB) (unhide HB3))
            have HOX : Hid (OwnN w3 w.heap.size (.slice (some ⟨b, o, none⟩) x cv) xs) := by have h := OwnL.keep (unhide HO) (unhide HB3); rw [hln] at h; exact h
            have O4 := hide (OwnL.keep (unhide HOX) (alloc_below w3 (.cells #[.int .i64 0] 3)))
            have Q63 : Hid ((xs.map (fun x => ((x : Nat) : Int))).length + 1 ≤ maxLen) := by show _ ≤ _; rw [List.length_map]; unfold maxLen; omega
            have Q8 : Hid (((xs.map (fun x => ((x : Nat) : Int))).length + 1) * 8 ≤ 140737488355328) := by show _ ≤ _; rw [List.length_map]; omega
            have QB := hide (below_step (unhide HBX) (alloc_below w3 (.cells #[.int .i64 0] 3))).size
            have QW := hide (below_step (unhide HBX) (alloc_below w3 (.cells #[.int .i64 0] 3)))
            have QR : Hid (∀ k, (Value.slice (some ⟨b, o, none⟩) x cv).ownBlock = some k → w.heap.size ≤ k) := fun k hk => OwnL.row (unhide HOX) k hk
            have HKX : Hid (k ≤ x) := hk
            obtain ⟨x1, hx1⟩ : ∃ y, x + 1 = y := ⟨_, rfl⟩
            obtain ⟨k1, hk1⟩ : ∃ y, k + 1 = y := ⟨_, rfl⟩
            have f1 : IntKind.i64.wrap ((k : Nat) + 1 : Int) = (k1 : Int) := by rw [IntKind.wrap_i64]; omega
            have f2 : IntKind.i64.wrap ((x : Int) + 1) = (x1 : Int) := by rw [IntKind.wrap_i64]; omega
            have f3 : (0 : Int) ≤ (k1 : Int) := by omega
            have f4 : k1 ≤ x1 := by omega
            have f5 : k ≤ x1 := by omega
            have f6 : (0 : Int) ≤ ((k : Nat) : Int) := by omega
            have f7 : ((k : Nat) : Int) < (x1 : Int) := by omega
            have HX1 := hide hx1
            have HKK := hide hk1
            clear hx1 hk1 hk hln
            go_wp2_with (at_builtin; go_loud (refine wpList_append_lies _ rfl _ _ _ rfl w.heap.size 3 ti (.int .i64 0) 1 8 Tryd.underlying23 (unhide HI) (unhide HZ) hz1 hz2 rfl (by decide) _ (xs.map (fun x => ((x : Nat) : Int))).length ((xs.map (fun x => ((x : Nat) : Int))).map (Value.int .i64 ·)) rfl (unhide O4) ⟨w3.heap.size, 0, none⟩ 1 1 [.int .i64 0] rfl rfl (news_zero w3 _) (one_int 0) (by decide) (unhide Q63) (unhide Q8) (unhide QB) (w3.heap.size + 1) (alloc_size _ _) ?_; intro g5 cap5 w5 own5 grow5 hat5 hlt5; have HO5 := hide own5; have HB5 := hide (Below.grown (unhide QW) grow5 (unhide QB) (unhide QR)); clear own5 grow5 hat5 hlt5))
            rw [unhide HLN, unhide HX1]
            obtain ⟨hO5a, ⟨h0, _⟩ | ⟨g', cap', cur, hv, hgB, hgg, hc1, hc2, hc3, hc4⟩⟩ := unhide HO5
            · cases h0
            injection hv with e2 e3 e4
            injection e2 with e2
            injection e2 with e2
            subst e2 e4
            have hln := unhide HLN
            have hx1 := unhide HX1
            have hk1 := unhide HKK
            have hkx := unhide HKX
            have hcl : cur.toList.length = cap5 := by rw [Array.length_toList, hc3]; omega
            rw [List.length_map] at hc1 hc4
            have hcap : x1 ≤ cap5 := by omega
            have HCT : Hid (cur.toList.take (xs.length + 1) = cI (xs ++ [0])) := by
              show _ = _
              rw [Nat.mul_one] at hc4
              rw [hc4]
              unfold cI
              rw [List.map_append, List.map_append]
              rfl
            obtain ⟨C, hC⟩ : ∃ C, cur.toList = C := ⟨_, rfl⟩
            have HGG : Hid (w5.heap[g5]? = some (.cells C.toArray 3 (0, 0))) := by show _ = _; rw [← hC, Array.toArray_toList]; exact hgg
            rw [hC] at HCT hcl
            have HCL := hide hcl
            obtain ⟨cs, hcs⟩ : ∃ cs, cI (xs.drop k) = cs := ⟨_, rfl⟩
            have hcsl : cs.length = x - k := by rw [← hcs, cI_length, List.length_drop, hln]
            have HCS := hide hcs
            have HCSL := hide hcsl
            have HSRC : Hid (∀ j v, cs[j]? = some v → w5.cell? ((⟨g5, k, none⟩ : Addr).add j) = some v) := fun j v hv => by
              have hj : j < x - k := by rw [← hcsl]; exact (List.getElem?_eq_some_iff.1 hv).1
              rw [Go.WideShapes.add_plain]
              have e1 : w5.cell? ⟨g5, k + j, none⟩ = C[k + j]? := by
                simp only [World.cell?]
                rw [show w5.heap[g5]? = _ from unhide HGG]
                simp
              have e2 : (C.take (xs.length + 1))[k + j]? = (cI (xs ++ [0]))[k + j]? := by rw [unhide HCT]
              rw [List.getElem?_take_of_lt (by omega), cI_get, List.getElem?_append_left (by omega)] at e2
              rw [e1, e2, ← hv, ← hcs, cI_get, List.getElem?_drop]
            have HONE : Hid (∀ v ∈ cs, v.oneCell' = true) := fun v hv => by
              rw [← hcs] at hv
              unfold cI at hv
              exact one_ints _ v hv
            have hkc : cap5 ≠ k := by omega
            have HMIN : Hid (cs.length = Nat.min (x1 - k) (x1 - k1)) := by
              show cs.length = min (x1 - k) (x1 - k1)
              omega
            have HFIT : Hid (k1 + cs.length ≤ C.length) := by show k1 + cs.length ≤ C.length; omega
            have hk1c : k1 ≤ cap5 := by omega
            have hkc2 : k ≤ cap5 := by omega
            have HGE : Hid (w.heap.size ≤ g5) := hgB
            have HKCAP : Hid (cap5 = k1 → cs.length = 0) := fun e => by omega
            obtain ⟨dp, hdp⟩ : ∃ dp : Option Addr, (if cap5 = k1 then some (⟨g5, 0, none⟩ : Addr) else some ⟨g5, k1, none⟩) = dp := ⟨_, rfl⟩
            have HDP : Hid (0 < cs.length → dp = some ⟨g5, k1, none⟩ ∧ ∃ ad, some (⟨g5, k, none⟩ : Addr) = some ad ∧ ∀ j v, cs[j]? = some v → w5.drew.cell? (ad.add j) = some v) := fun h => by
              refine ⟨?_, _, rfl, unhide HSRC⟩
              rw [← hdp, if_neg (fun e => by have := unhide HKCAP e; omega)]
            have HFINAL : Hid (∀ w6 : World, w6.heap[g5]? = some (.cells (splice C k1 cs).toArray 3 (0, 0)) → Below w.heap.size w w6 → (∃ u : Value, w6.cell? ⟨g5, k, none⟩ = some u) ∧ w6.frozen? ⟨g5, k, none⟩ = false ∧ OwnN (w6.setCell ⟨g5, k, none⟩ (.int .i64 (x : Int))) w.heap.size (.slice (some ⟨g5, 0, none⟩) x1 cap5) (putAt xs k x) ∧ Below w.heap.size w (w6.setCell ⟨g5, k, none⟩ (.int .i64 (x : Int)))) := fun w6 h6 hb6 => by
              have hls : (splice C k1 cs).length = C.length := length_splice _ _ _ (unhide HFIT)
              have hcl := unhide HCL
              refine ⟨⟨(splice C k1 cs)[k]'(by omega), by simp only [World.cell?]; rw [h6]; simp⟩, by simp [World.frozen?, h6], ⟨by rw [List.length_map, List.length_map, putAt_length _ _ (by omega)]; omega, Or.inr ⟨g5, cap5, ((splice C k1 cs).set k (.int .i64 (x : Int))).toArray, by rw [List.length_map, putAt_length _ _ (by omega), hln, hx1], hgB, ?_, by rw [List.length_map, putAt_length _ _ (by omega)]; omega, hc2, by simp; omega, ?_⟩⟩, hb6.setCell hgB _⟩
              · rw [setCell_eq]
                simp only [mapBlock, Array.getElem?_modify, h6, if_true, Option.map_some, onCells]
                simp
              · rw [List.length_map, putAt_length _ _ (by omega), Nat.mul_one]
                have := put_cells (cur := C) (xs := xs) (k := k) (x := x) (by omega) (by omega) (unhide HCT)
                rw [hk1, hcs] at this
                exact this
            have HBP : Hid (Below w.heap.size w w5.drew) := below_step (unhide HB5) (drew_below _)
            have HSO : Hid ((putAt xs k x).Perm (List.range (x + 1)) ∧ (putAt xs k x).Pairwise (Lo lt)) := by
              refine ⟨?_, putAt_sorted (unhide HW) hlt (fun y hy => ?_) (unhide HSR) (by omega) (fun j h1 h2 => unhide HALL j h1 (by omega)) (unhide HEND)⟩
              · rw [List.range_succ]
                exact (putAt_perm xs k x).trans ((List.Perm.cons x (unhide HPM)).trans (List.perm_append_singleton x _).symm)
              · exact List.mem_range.1 ((unhide HPM).subset hy)
            clear hO5a hgg hc1 hc2 hc3 hc4 e3 hln hx1 hk1 hkx hcl hC hcs hcsl HO5 HB5 O4 Q63 Q8 QB QW QR HBX HOX HCT hgB HKCAP HSRC
            go_region_law ((refine step_copy_splice rfl (.tmp 34) (.tmp 37) 23 23 rfl 3 Tryd.underlying23 Tryd.sizeI dp (some ⟨g5, k, none⟩) (x1 - k1) (cap5 - k1) (x1 - k) (cap5 - k) (by simp [Act.eval, Act.put]) (by simp [Act.eval, Act.put]) g5 k1 C 3 (unhide HGG) cs (unhide HMIN) (unhide HDP) (unhide HFIT) (unhide HONE) w.heap.size w (unhide HBP) (unhide HGE) ?_; intro w6 hg6 hb6))
            all_goals
              obtain ⟨⟨u6, hc6⟩, hf6, hO6, hB6⟩ := unhide HFINAL w6 (unhide hg6) hb6
              have HO6 := hide hO6
              have HB6 := hide hB6
              clear hg6 hb6 hO6 hB6
              go_wp2
              exact ⟨⟨x + 1, putAt xs k x, by rw [unhide HX1], hlt, unhide HO6, (unhide HSO).1, (unhide HSO).2, unhide HB6⟩, by have := unhide HX1; simp [intOf]; omega⟩
        · have HEND : Hid (0 < k → lt x xs[k - 1]! = false) := fun h => absurd h hk0
          have HB3 := HBV
          have dk : decide (0 < k) = false := decide_eq_false hk0
          have d1 : ¬ (0 : Int) < (k : Int) := by omega
          clear hbv hk0
          have HBX := hide (below_step (unhide HB) (unhide HB3))
          have HOX : Hid (OwnN wr w.heap.size (.slice av x cv) xs) := by have h := OwnL.keep (unhide HO) (unhide HB3); rw [hln] at h; exact h
          have O4 := hide (OwnL.keep (unhide HOX) (alloc_below wr (.cells #[.int .i64 0] 3)))
          have Q63 : Hid ((xs.map (fun x => ((x : Nat) : Int))).length + 1 ≤ maxLen) := by show _ ≤ _; rw [List.length_map]; unfold maxLen; omega
          have Q8 : Hid (((xs.map (fun x => ((x : Nat) : Int))).length + 1) * 8 ≤ 140737488355328) := by show _ ≤ _; rw [List.length_map]; omega
          have QB := hide (below_step (unhide HBX) (alloc_below wr (.cells #[.int .i64 0] 3))).size
          have QW := hide (below_step (unhide HBX) (alloc_below wr (.cells #[.int .i64 0] 3)))
          have QR : Hid (∀ k, (Value.slice av x cv).ownBlock = some k → w.heap.size ≤ k) := fun k hk => OwnL.row (unhide HOX) k hk
          have HKX : Hid (k ≤ x) := hk
          obtain ⟨x1, hx1⟩ : ∃ y, x + 1 = y := ⟨_, rfl⟩
          obtain ⟨k1, hk1⟩ : ∃ y, k + 1 = y := ⟨_, rfl⟩
          have f1 : IntKind.i64.wrap ((k : Nat) + 1 : Int) = (k1 : Int) := by rw [IntKind.wrap_i64]; omega
          have f2 : IntKind.i64.wrap ((x : Int) + 1) = (x1 : Int) := by rw [IntKind.wrap_i64]; omega
          have f3 : (0 : Int) ≤ (k1 : Int) := by omega
          have f4 : k1 ≤ x1 := by omega
          have f5 : k ≤ x1 := by omega
          have f6 : (0 : Int) ≤ ((k : Nat) : Int) := by omega
          have f7 : ((k : Nat) : Int) < (x1 : Int) := by omega
          have HX1 := hide hx1
          have HKK := hide hk1
          clear hx1 hk1 hk hln
          go_wp2_with (at_builtin; go_loud (refine wpList_append_lies _ rfl _ _ _ rfl w.heap.size 3 ti (.int .i64 0) 1 8 Tryd.underlying23 (unhide HI) (unhide HZ) hz1 hz2 rfl (by decide) _ (xs.map (fun x => ((x : Nat) : Int))).length ((xs.map (fun x => ((x : Nat) : Int))).map (Value.int .i64 ·)) rfl (unhide O4) ⟨wr.heap.size, 0, none⟩ 1 1 [.int .i64 0] rfl rfl (news_zero wr _) (one_int 0) (by decide) (unhide Q63) (unhide Q8) (unhide QB) (wr.heap.size + 1) (alloc_size _ _) ?_; intro g5 cap5 w5 own5 grow5 hat5 hlt5; have HO5 := hide own5; have HB5 := hide (Below.grown (unhide QW) grow5 (unhide QB) (unhide QR)); clear own5 grow5 hat5 hlt5))
          rw [unhide HLN, unhide HX1]
          obtain ⟨hO5a, ⟨h0, _⟩ | ⟨g', cap', cur, hv, hgB, hgg, hc1, hc2, hc3, hc4⟩⟩ := unhide HO5
          · cases h0
          injection hv with e2 e3 e4
          injection e2 with e2
          injection e2 with e2
          subst e2 e4
          have hln := unhide HLN
          have hx1 := unhide HX1
          have hk1 := unhide HKK
          have hkx := unhide HKX
          have hcl : cur.toList.length = cap5 := by rw [Array.length_toList, hc3]; omega
          rw [List.length_map] at hc1 hc4
          have hcap : x1 ≤ cap5 := by omega
          have HCT : Hid (cur.toList.take (xs.length + 1) = cI (xs ++ [0])) := by
            show _ = _
            rw [Nat.mul_one] at hc4
            rw [hc4]
            unfold cI
            rw [List.map_append, List.map_append]
            rfl
          obtain ⟨C, hC⟩ : ∃ C, cur.toList = C := ⟨_, rfl⟩
          have HGG : Hid (w5.heap[g5]? = some (.cells C.toArray 3 (0, 0))) := by show _ = _; rw [← hC, Array.toArray_toList]; exact hgg
          rw [hC] at HCT hcl
          have HCL := hide hcl
          obtain ⟨cs, hcs⟩ : ∃ cs, cI (xs.drop k) = cs := ⟨_, rfl⟩
          have hcsl : cs.length = x - k := by rw [← hcs, cI_length, List.length_drop, hln]
          have HCS := hide hcs
          have HCSL := hide hcsl
          have HSRC : Hid (∀ j v, cs[j]? = some v → w5.cell? ((⟨g5, k, none⟩ : Addr).add j) = some v) := fun j v hv => by
            have hj : j < x - k := by rw [← hcsl]; exact (List.getElem?_eq_some_iff.1 hv).1
            rw [Go.WideShapes.add_plain]
            have e1 : w5.cell? ⟨g5, k + j, none⟩ = C[k + j]? := by
              simp only [World.cell?]
              rw [show w5.heap[g5]? = _ from unhide HGG]
              simp
            have e2 : (C.take (xs.length + 1))[k + j]? = (cI (xs ++ [0]))[k + j]? := by rw [unhide HCT]
            rw [List.getElem?_take_of_lt (by omega), cI_get, List.getElem?_append_left (by omega)] at e2
            rw [e1, e2, ← hv, ← hcs, cI_get, List.getElem?_drop]
          have HONE : Hid (∀ v ∈ cs, v.oneCell' = true) := fun v hv => by
            rw [← hcs] at hv
            unfold cI at hv
            exact one_ints _ v hv
          have hkc : cap5 ≠ k := by omega
          have HMIN : Hid (cs.length = Nat.min (x1 - k) (x1 - k1)) := by
            show cs.length = min (x1 - k) (x1 - k1)
            omega
          have HFIT : Hid (k1 + cs.length ≤ C.length) := by show k1 + cs.length ≤ C.length; omega
          have hk1c : k1 ≤ cap5 := by omega
          have hkc2 : k ≤ cap5 := by omega
          have HGE : Hid (w.heap.size ≤ g5) := hgB
          have HKCAP : Hid (cap5 = k1 → cs.length = 0) := fun e => by omega
          obtain ⟨dp, hdp⟩ : ∃ dp : Option Addr, (if cap5 = k1 then some (⟨g5, 0, none⟩ : Addr) else some ⟨g5, k1, none⟩) = dp := ⟨_, rfl⟩
          have HDP : Hid (0 < cs.length → dp = some ⟨g5, k1, none⟩ ∧ ∃ ad, some (⟨g5, k, none⟩ : Addr) = some ad ∧ ∀ j v, cs[j]? = some v → w5.drew.cell? (ad.add j) = some v) := fun h => by
            refine ⟨?_, _, rfl, unhide HSRC⟩
            rw [← hdp, if_neg (fun e => by have := unhide HKCAP e; omega)]
          have HFINAL : Hid (∀ w6 : World, w6.heap[g5]? = some (.cells (splice C k1 cs).toArray 3 (0, 0)) → Below w.heap.size w w6 → (∃ u : Value, w6.cell? ⟨g5, k, none⟩ = some u) ∧ w6.frozen? ⟨g5, k, none⟩ = false ∧ OwnN (w6.setCell ⟨g5, k, none⟩ (.int .i64 (x : Int))) w.heap.size (.slice (some ⟨g5, 0, none⟩) x1 cap5) (putAt xs k x) ∧ Below w.heap.size w (w6.setCell ⟨g5, k, none⟩ (.int .i64 (x : Int)))) := fun w6 h6 hb6 => by
            have hls : (splice C k1 cs).length = C.length := length_splice _ _ _ (unhide HFIT)
            have hcl := unhide HCL
            refine ⟨⟨(splice C k1 cs)[k]'(by omega), by simp only [World.cell?]; rw [h6]; simp⟩, by simp [World.frozen?, h6], ⟨by rw [List.length_map, List.length_map, putAt_length _ _ (by omega)]; omega, Or.inr ⟨g5, cap5, ((splice C k1 cs).set k (.int .i64 (x : Int))).toArray, by rw [List.length_map, putAt_length _ _ (by omega), hln, hx1], hgB, ?_, by rw [List.length_map, putAt_length _ _ (by omega)]; omega, hc2, by simp; omega, ?_⟩⟩, hb6.setCell hgB _⟩
            · rw [setCell_eq]
              simp only [mapBlock, Array.getElem?_modify, h6, if_true, Option.map_some, onCells]
              simp
            · rw [List.length_map, putAt_length _ _ (by omega), Nat.mul_one]
              have := put_cells (cur := C) (xs := xs) (k := k) (x := x) (by omega) (by omega) (unhide HCT)
              rw [hk1, hcs] at this
              exact this
          have HBP : Hid (Below w.heap.size w w5.drew) := below_step (unhide HB5) (drew_below _)
          have HSO : Hid ((putAt xs k x).Perm (List.range (x + 1)) ∧ (putAt xs k x).Pairwise (Lo lt)) := by
            refine ⟨?_, putAt_sorted (unhide HW) hlt (fun y hy => ?_) (unhide HSR) (by omega) (fun j h1 h2 => unhide HALL j h1 (by omega)) (unhide HEND)⟩
            · rw [List.range_succ]
              exact (putAt_perm xs k x).trans ((List.Perm.cons x (unhide HPM)).trans (List.perm_append_singleton x _).symm)
            · exact List.mem_range.1 ((unhide HPM).subset hy)
          clear hO5a hgg hc1 hc2 hc3 hc4 e3 hln hx1 hk1 hkx hcl hC hcs hcsl HO5 HB5 O4 Q63 Q8 QB QW QR HBX HOX HCT hgB HKCAP HSRC
          go_region_law ((refine step_copy_splice rfl (.tmp 34) (.tmp 37) 23 23 rfl 3 Tryd.underlying23 Tryd.sizeI dp (some ⟨g5, k, none⟩) (x1 - k1) (cap5 - k1) (x1 - k) (cap5 - k) (by simp [Act.eval, Act.put]) (by simp [Act.eval, Act.put]) g5 k1 C 3 (unhide HGG) cs (unhide HMIN) (unhide HDP) (unhide HFIT) (unhide HONE) w.heap.size w (unhide HBP) (unhide HGE) ?_; intro w6 hg6 hb6))
          all_goals
            obtain ⟨⟨u6, hc6⟩, hf6, hO6, hB6⟩ := unhide HFINAL w6 (unhide hg6) hb6
            have HO6 := hide hO6
            have HB6 := hide hB6
            clear hg6 hb6 hO6 hB6
            go_wp2
            exact ⟨⟨x + 1, putAt xs k x, by rw [unhide HX1], hlt, unhide HO6, (unhide HSO).1, (unhide HSO).2, unhide HB6⟩, by have := unhide HX1; simp [intOf]; omega⟩
    · obtain rfl : x = n := by omega
      have e1 : ¬ (x : Int) < (x : Int) := by omega
      have HO := hide hO
      have HB := hide hb
      clear hO hb hln hpm hsr
      go_wp2
      go_ret
      exact ⟨unhide HB, _, xs, rfl, unhide HO, unhide HPM, unhide HSR⟩
end Go.Proofs.YtepgdlgifempeaaDoor
