/- Trees of the program: Center, Across. -/
import Derived.Test.YtcmddkekidgkoaaDoorTE6
namespace Go.Proofs.YtcmddkekidgkoaaDoor
open Go.RowKit Go.Sort Go.Shelf

theorem foldl_max : ∀ (l : List Int) (a : Int), a ≤ l.foldl max a ∧ (∀ x ∈ l, x ≤ l.foldl max a) ∧ (l.foldl max a = a ∨ l.foldl max a ∈ l)
  | [], a => ⟨Int.le_refl _, ⟨fun x h => absurd h (by simp), Or.inl rfl⟩⟩
  | y :: l, a => by
    have ih := foldl_max l (max a y)
    refine ⟨?_, fun x hx => ?_, ?_⟩
    · show a ≤ l.foldl max (max a y)
      have := ih.1; omega
    · show x ≤ l.foldl max (max a y)
      rcases List.mem_cons.1 hx with e | e
      · have := ih.1; omega
      · exact ih.2.1 x e
    · show l.foldl max (max a y) = a ∨ l.foldl max (max a y) ∈ y :: l
      rcases ih.2.2 with e | e
      · rw [e]
        by_cases c : a < y
        · right; rw [show max a y = y by omega]; exact List.mem_cons_self ..
        · left; omega
      · exact Or.inr (List.mem_cons_of_mem _ e)
/-- The farthest. -/
def ecc (n m : Nat) (f : Nat → T3) (s : Nat → Nat → Bool) (i : Nat) : Int := Lib.maxOf ((List.range n).map (dist m f s i))
theorem ecc_ge {n m : Nat} {f : Nat → T3} {s : Nat → Nat → Bool} {i v : Nat} (hv : v < n) : dist m f s i v ≤ ecc n m f s i :=
  (foldl_max _ _).2.1 _ (List.mem_map.2 ⟨v, List.mem_range.2 hv, rfl⟩)
theorem ecc_at {n m : Nat} {f : Nat → T3} {s : Nat → Nat → Bool} {i : Nat} (hn : 1 ≤ n) : ∃ v, v < n ∧ ecc n m f s i = dist m f s i v := by
  obtain ⟨k, rfl⟩ : ∃ k, n = k + 1 := ⟨n - 1, by omega⟩
  unfold ecc Lib.maxOf
  obtain ⟨l, hl⟩ : ∃ l, (List.range (k + 1)).map (dist m f s i) = l := ⟨_, rfl⟩
  have hm : ∀ x ∈ l, ∃ v, v < k + 1 ∧ x = dist m f s i v := fun x hx => by
    rw [← hl] at hx
    obtain ⟨v, h1, h2⟩ := List.mem_map.1 hx
    exact ⟨v, List.mem_range.1 h1, h2.symm⟩
  have hne : l.headD 0 ∈ l := by
    cases l with
    | nil => have := congrArg List.length hl; simp at this
    | cons y l => exact List.mem_cons_self ..
  rw [hl]
  rcases (foldl_max l (l.headD 0)).2.2 with e | e
  · rw [e]; exact hm _ hne
  · exact hm _ e

structure CEnv (W : World) (b0 b1 n : Nat) (a : Option Addr) (m c : Nat) (f : Nat → T3) (s : Nat → Nat → Bool) : Prop where
  c0 : Bx W b0 (.int .i64 (n : Int))
  c1 : Bx W b1 (.slice a m c)
  tr : TRow W a m c f
  gt : GTree n m f s
theorem CEnv.keep {W W' : World} {b0 b1 n : Nat} {a : Option Addr} {m c : Nat} {f : Nat → T3} {s : Nat → Nat → Bool} (h : CEnv W b0 b1 n a m c f s) (hb : Below W.heap.size W W') : CEnv W' b0 b1 n a m c f s :=
  ⟨h.c0.keep hb, h.c1.keep hb, h.tr.below hb, h.gt⟩
theorem max_row (w : World) (G n c : Nat) (g : Nat → Int) (h : OwnI w G n g) (hn1 : 1 ≤ n) (hn : n ≤ 1000) :
    Calls Tryd.prog 59 #[.slice (some ⟨G, 0, none⟩) n c] w fun e w' => e = .returned (.int .i64 (Lib.maxOf ((List.range n).map g))) ∧ w' = w := by
  have := Tryd.slices_Max_int G 0 n c ((List.range n).map g) w hn1 (by simp) (by omega) (fun j hj => by
    have hj' : j < n := by simpa using hj
    rw [Nat.zero_add, h.cell hj', getD_row g hj'])
  rwa [List.take_of_length_le (by simp)] at this
set_option maxHeartbeats 4000000 in
theorem cen1_any (n : Nat) (b0 b1 : Nat) (a : Option Addr) (m c : Nat) (f : Nat → T3) (s : Nat → Nat → Bool) (W : World) (h : CEnv W b0 b1 n a m c f s) (i : Nat) (hi : i < n) :
    Calls Tryd.prog 58 #[.int .i64 (i : Int), .pointer (some ⟨b0, 0, none⟩), .pointer (some ⟨b1, 0, none⟩)] W fun e w' => e = .returned (.int .i64 (ecc n m f s i)) ∧ Below W.heap.size W w' := by
  have HC := hide (farT_any n a m c f s i W h.tr h.gt hi)
  have k0 := h.c0.1
  have k1 := h.c1.1
  have h1 := h.gt.one
  have h2 := h.gt.few
  clear h
  go_enter Tryd.func58, Tryd.ntmps58
  go_wp2_with fail
  refine (unhide HC).mono ?_
  rintro e w1 ⟨G, hG, rfl, hO, hb1⟩
  have HM := hide (max_row w1 G n n (dist m f s i) hO h1 (by omega))
  have HB := hide hb1
  clear hO hb1 hG HC
  go_wp2_with fail
  refine (unhide HM).mono ?_
  rintro e w2 ⟨rfl, rfl⟩
  go_wp2
  go_ret
  exact ⟨rfl, unhide HB⟩

set_option maxHeartbeats 4000000 in
set_option maxRecDepth 100000 in
theorem leastCen_any (n : Nat) (b0 b1 : Nat) (a : Option Addr) (m c : Nat) (f : Nat → T3) (s : Nat → Nat → Bool) (w : World) (hn1 : 1 ≤ n) (hn : n ≤ 60) (h : CEnv w b0 b1 n a m c f s) :
    Calls Tryd.prog 56 #[.int .i64 (n : Int), .func (.func 58) #[] #[.pointer (some ⟨b0, 0, none⟩), .pointer (some ⟨b1, 0, none⟩)]] w fun e w' => e = .returned (.tuple #[.int .i64 (((lst (ecc n m f s) (n - 1)).1 : Nat) : Int), .int .i64 (lst (ecc n m f s) (n - 1)).2]) ∧ Below w.heap.size w w' := by
  have HC : Hid (∀ (i : Nat) W, i < n → Below w.heap.size w W → Calls Tryd.prog 58 #[.int .i64 (i : Int), .pointer (some ⟨b0, 0, none⟩), .pointer (some ⟨b1, 0, none⟩)] W fun e w' => e = .returned (.int .i64 ((ecc n m f s) i)) ∧ Below W.heap.size W w') := fun i W hi hW => cen1_any n b0 b1 a m c f s W (h.keep hW) i hi
  obtain ⟨V, hV⟩ : ∃ V : Nat → Int, (ecc n m f s) = V := ⟨_, rfl⟩
  rw [hV] at HC ⊢
  clear h hV
  have HC0 : Hid (Calls Tryd.prog 58 #[.int .i64 0, .pointer (some ⟨b0, 0, none⟩), .pointer (some ⟨b1, 0, none⟩)] w fun e w' => e = .returned (.int .i64 (V 0)) ∧ Below w.heap.size w w') := unhide HC 0 w (by omega) (Below.refl _ _)
  go_enter Tryd.func56, Tryd.ntmps56
  go_wp2_with fail
  refine (unhide HC0).mono ?_
  rintro e w1 ⟨rfl, hb1⟩
  have HB := hide hb1
  clear hb1 HC0
  go_wp2_with fail
  go_loopw [8, 6, 7] (fun vi vb vl wr => ∃ k : Nat, vi = .int .i64 ((k + 1 : Nat) : Int) ∧ k + 1 ≤ n ∧ vb = .int .i64 (((lst V k).1 : Nat) : Int) ∧ vl = .int .i64 (lst V k).2 ∧ Below w.heap.size w wr) (fun vi _ _ _ => n - (intOf vi).toNat)
  case atStart => exact ⟨0, rfl, hn1, rfl, rfl, unhide HB⟩
  case round =>
    obtain ⟨k, rfl, hk, rfl, rfl, hb⟩ := hrel
    clear HB
    obtain ⟨k1, hk1⟩ : ∃ k1, k + 1 = k1 := ⟨_, rfl⟩
    have HS : Hid (lst V k1 = if V k1 < (lst V k).2 then (k1, V k1) else lst V k) := by show lst V k1 = _; rw [← hk1]; rfl
    rw [hk1] at hk ⊢
    have HKE := hide hk1
    clear hk1
    by_cases hlt : k1 < n
    · have C1 := hide (unhide HC k1 wr hlt hb)
      have HB := hide hb
      obtain ⟨⟨bs, lo⟩, hs⟩ : ∃ s, lst V k = s := ⟨_, rfl⟩
      obtain ⟨x, hx⟩ : ∃ x, V k1 = x := ⟨_, rfl⟩
      rw [hs, hx] at HS
      rw [hx] at C1
      rw [hs]
      simp only at HS ⊢
      have e1 : (k1 : Int) < (n : Int) := by omega
      have e2 : IntKind.i64.wrap ((k1 : Int) + 1) = ((k1 + 1 : Nat) : Int) := by rw [IntKind.wrap_i64]; omega
      clear hb hs hx
      by_cases hxl : x < lo
      · have HS2 : Hid (lst V k1 = (k1, x)) := by show lst V k1 = _; rw [unhide HS, if_pos hxl]
        go_wp2_with fail
        refine (unhide C1).mono ?_
        rintro e w2 ⟨rfl, hb2⟩
        have HB2 := hide (below_step (unhide HB) hb2)
        clear hb2 HB C1
        go_wp2
        exact ⟨⟨k1, rfl, hlt, by rw [unhide HS2], by rw [unhide HS2], unhide HB2⟩, by simp [intOf]; omega⟩
      · have HS2 : Hid (lst V k1 = (bs, lo)) := by show lst V k1 = _; rw [unhide HS, if_neg hxl]
        go_wp2_with fail
        refine (unhide C1).mono ?_
        rintro e w2 ⟨rfl, hb2⟩
        have HB2 := hide (below_step (unhide HB) hb2)
        clear hb2 HB C1
        go_wp2
        exact ⟨⟨k1, rfl, hlt, by rw [unhide HS2], by rw [unhide HS2], unhide HB2⟩, by simp [intOf]; omega⟩
    · have hkn : k = n - 1 := by have := unhide HKE; omega
      have hk1n : k1 = n := by omega
      have HB := hide hb
      have e1 : ¬ (k1 : Int) < (n : Int) := by omega
      have HS2 : Hid (lst V k = lst V (n - 1)) := by show lst V k = _; rw [hkn]
      clear hb hkn hk1n HS
      go_wp2
      go_ret2
      exact ⟨by rw [unhide HS2]; rfl, unhide HB⟩

set_option maxHeartbeats 8000000 in
set_option maxRecDepth 100000 in
theorem Center_any (N : Int) (a : Option Addr) (m c : Nat) (f : Nat → T3) (cu : Bool) (s : Nat → Nat → Bool) (w : World) (hN : I64 N) (hcu : Cu N.toNat m f cu) (hs : Cuts N m f cu s) (ha : TRow w a m c f) :
    Calls Tryd.prog 26 #[.int .i64 N, .slice a m c] w (MidE w (kcode N m f cu) (((lst (ecc N.toNat m f s) (N.toNat - 1)).1 : Nat) : Int) (lst (ecc N.toNat m f s) (N.toNat - 1)).2) := by
  have X0 := Bx.new w (.int .i64 N) 3
  have B0 := alloc_below w (.cells #[.int .i64 N] 3)
  obtain ⟨W1, hW1⟩ : ∃ W, w.alloc (.cells #[.int .i64 N] 3) = W := ⟨_, rfl⟩
  obtain ⟨b0, hb0⟩ : ∃ b, w.heap.size = b := ⟨_, rfl⟩
  rw [hW1] at X0 B0
  rw [hb0] at X0
  have X1 := Bx.new W1 (.slice a m c) 22
  have B1 := alloc_below W1 (.cells #[.slice a m c] 22)
  obtain ⟨W2, hW2⟩ : ∃ W, W1.alloc (.cells #[.slice a m c] 22) = W := ⟨_, rfl⟩
  obtain ⟨b1, hb1⟩ : ∃ b, W1.heap.size = b := ⟨_, rfl⟩
  rw [hW2] at X1 B1
  rw [hb1] at X1
  have X0 := X0.keep B1
  have BA := below_step B0 B1
  have HB := hide BA
  have HA := hide (ha.below BA)
  have HX0 := hide X0
  have HX1 := hide X1
  have k0 := X0.1
  have k1 := X1.1
  have HC := hide (tcheck_any N a m c f cu W2 hN hcu (ha.below BA))
  clear X0 X1 B0 B1 BA ha
  by_cases hk : kcode N m f cu = 0
  case neg =>
    rw [errV_not hk] at HC
    obtain ⟨k, hk2⟩ : ∃ k, kcode N m f cu = k := ⟨_, rfl⟩
    rw [hk2] at HC hk ⊢
    have HK := hide hk
    clear hk hk2 hcu hs
    go_enter Tryd.func26, Tryd.ntmps26
    go_wp2_with fail
    refine (unhide HC).mono ?_
    rintro e w1 ⟨rfl, hb1'⟩
    have HB1 := hide (below_step (unhide HB) hb1')
    clear hb1' k0 k1 hW1 hW2 hb0 hb1
    go_wp2
    go_ret3
    exact ⟨unhide HB1, Or.inl ⟨unhide HK, rfl⟩⟩
  rw [hk, errV_zero] at HC
  have hT0 := hs hk
  obtain ⟨n, s0, rfl, _⟩ := kcode_zero hcu hk
  have hT : GTree n m f s := hT0
  have HENV : Hid (∀ W, Below W2.heap.size W2 W → CEnv W b0 b1 n a m c f s) := fun W hW => ⟨(unhide HX0).keep hW, (unhide HX1).keep hW, (unhide HA).below hW, hT⟩
  have h60 := hT.few
  have h01 := hT.one
  have HK := hide hk
  clear hT hT0 hs hcu hk
  go_enter Tryd.func26, Tryd.ntmps26
  go_wp2_with fail
  refine (unhide HC).mono ?_
  rintro e w1 ⟨rfl, hb1'⟩
  have HB1 := hide (below_step (unhide HB) hb1')
  have HE1 := hide (unhide HENV w1 hb1')
  have k3 := (unhide HE1).c0.1
  have HL := hide (leastCen_any n b0 b1 a m c f s w1 h01 h60 (unhide HE1))
  clear hb1' k0 k1 hW1 hW2 hb0 hb1 HC HENV
  go_wp2_with fail
  refine (unhide HL).mono ?_
  rintro e w2 ⟨rfl, hb2'⟩
  have HB2 := hide (below_step (unhide HB1) hb2')
  clear hb2' HL
  go_wp2
  go_ret3
  exact ⟨unhide HB2, Or.inr ⟨unhide HK, rfl⟩⟩

/-- The farthest two, row by row. -/
def acr (d : Nat → Nat → Int) (i : Nat) (t : Nat × Nat × Int) : Nat → Nat × Nat × Int
  | 0 => t
  | k + 1 => if (acr d i t k).2.2 < d i k then (i, k, d i k) else acr d i t k
def aca (d : Nat → Nat → Int) (n : Nat) : Nat → Nat × Nat × Int
  | 0 => (0, 0, 0)
  | i + 1 => acr d i (aca d n i) n
theorem acr_inv {d : Nat → Nat → Int} {n i : Nat} {t : Nat × Nat × Int} (hi : i < n) (h1 : t.1 < n ∧ t.2.1 < n ∧ t.2.2 = d t.1 t.2.1) : ∀ k, k ≤ n → ((acr d i t k).1 < n ∧ (acr d i t k).2.1 < n ∧ (acr d i t k).2.2 = d (acr d i t k).1 (acr d i t k).2.1) ∧ t.2.2 ≤ (acr d i t k).2.2 ∧ ∀ j, j < k → d i j ≤ (acr d i t k).2.2
  | 0, _ => ⟨h1, Int.le_refl _, fun j hj => absurd hj (Nat.not_lt_zero _)⟩
  | k + 1, hk => by
    have ih := acr_inv hi h1 k (by omega)
    have e : acr d i t (k + 1) = if (acr d i t k).2.2 < d i k then (i, k, d i k) else acr d i t k := rfl
    rw [e]
    split
    · next c => exact ⟨⟨hi, hk, rfl⟩, by show t.2.2 ≤ d i k; omega, fun j hj => by
        show d i j ≤ d i k
        by_cases hjk : j = k
        · rw [hjk]; exact Int.le_refl _
        · have := ih.2.2 j (by omega); omega⟩
    · next c => exact ⟨ih.1, ih.2.1, fun j hj => by
        by_cases hjk : j = k
        · rw [hjk]; omega
        · exact ih.2.2 j (by omega)⟩
theorem aca_inv {d : Nat → Nat → Int} {n : Nat} (hn : 1 ≤ n) (h0 : d 0 0 = 0) : ∀ i, i ≤ n → ((aca d n i).1 < n ∧ (aca d n i).2.1 < n ∧ (aca d n i).2.2 = d (aca d n i).1 (aca d n i).2.1) ∧ ∀ j k, j < i → k < n → d j k ≤ (aca d n i).2.2
  | 0, _ => ⟨⟨hn, hn, h0.symm⟩, fun j k hj => absurd hj (Nat.not_lt_zero _)⟩
  | i + 1, hi => by
    have ih := aca_inv hn h0 i (by omega)
    have := acr_inv (t := aca d n i) (show i < n by omega) ih.1 n (Nat.le_refl _)
    refine ⟨this.1, fun j k hj hk => ?_⟩
    show d j k ≤ (acr d i (aca d n i) n).2.2
    by_cases c : j = i
    · rw [c]; exact this.2.2 k hk
    · have := ih.2 j k (by omega) hk; omega
def AcE (w : World) (k x y z : Int) (e : Ending) (w' : World) : Prop := Below w.heap.size w w' ∧ ((k ≠ 0 ∧ e = .returned (.tuple #[.int .i64 0, .int .i64 0, .int .i64 0, .iface 25 (.int .i64 k)])) ∨ (k = 0 ∧ e = .returned (.tuple #[.int .i64 x, .int .i64 y, .int .i64 z, .nilIface])))
set_option maxHeartbeats 8000000 in
set_option maxRecDepth 100000 in
theorem Across_any (N : Int) (a : Option Addr) (m c : Nat) (f : Nat → T3) (cu : Bool) (s : Nat → Nat → Bool) (w : World) (hN : I64 N) (hcu : Cu N.toNat m f cu) (hs : Cuts N m f cu s) (ha : TRow w a m c f) :
    Calls Tryd.prog 27 #[.int .i64 N, .slice a m c] w (AcE w (kcode N m f cu) (((aca (dist m f s) N.toNat N.toNat).1 : Nat) : Int) (((aca (dist m f s) N.toNat N.toNat).2.1 : Nat) : Int) (aca (dist m f s) N.toNat N.toNat).2.2) := by
  have HC := hide (tcheck_any N a m c f cu w hN hcu ha)
  have HA := hide ha
  have q1 := ha.1
  have q2 := ha.2.1
  clear ha
  by_cases hk : kcode N m f cu = 0
  case neg =>
    rw [errV_not hk] at HC
    obtain ⟨k, hk2⟩ : ∃ k, kcode N m f cu = k := ⟨_, rfl⟩
    rw [hk2] at HC hk ⊢
    have HK := hide hk
    clear hk hk2 hcu hs
    go_enter Tryd.func27, Tryd.ntmps27
    go_wp2_with fail
    refine (unhide HC).mono ?_
    rintro e w1 ⟨rfl, hb1⟩
    go_wp2
    (try simp only [Exit.inBlock, Exit.then])
    exact bodyPost_ret (v := .tuple #[.int .i64 0, .int .i64 0, .int .i64 0, .iface 25 (.int .i64 k)]) (by simp [results, Tryd.results27, go_sem]) rfl ⟨hb1, Or.inl ⟨unhide HK, rfl⟩⟩
  rw [hk, errV_zero] at HC
  have hT0 := hs hk
  obtain ⟨n, s0, rfl, _⟩ := kcode_zero hcu hk
  have HT : Hid (GTree n m f s) := hT0
  have h60 := (unhide HT).few
  have h01 := (unhide HT).one
  have HF : Hid (∀ i W, i < n → Below w.heap.size w W → Calls Tryd.prog 49 #[.int .i64 (n : Int), .slice a m c, .int .i64 (i : Int)] W (FarT W n m f s i)) := fun i W hi hW => farT_any n a m c f s i W ((unhide HA).below hW) (unhide HT) hi
  obtain ⟨d, hd⟩ : ∃ d : Nat → Nat → Int, dist m f s = d := ⟨_, rfl⟩
  have HFT : Hid (∀ i e W W', FarT W n m f s i e W' → ∃ G : Nat, W.heap.size ≤ G ∧ e = .returned (.slice (some ⟨G, 0, none⟩) n n) ∧ OwnI W' G n (d i) ∧ Below W.heap.size W W') := fun i e W W' h => by rw [← hd]; exact h
  have HFIN : Hid (∀ e W, AcE w 0 (((aca d n n).1 : Nat) : Int) (((aca d n n).2.1 : Nat) : Int) (aca d n n).2.2 e W → AcE w (kcode (n : Int) m f cu) (((aca (dist m f s) ((n : Nat) : Int).toNat ((n : Nat) : Int).toNat).1 : Nat) : Int) (((aca (dist m f s) ((n : Nat) : Int).toNat ((n : Nat) : Int).toNat).2.1 : Nat) : Int) (aca (dist m f s) ((n : Nat) : Int).toNat ((n : Nat) : Int).toNat).2.2 e W) := fun e W h => by rw [hk]; rw [← hd] at h; exact h
  clear hT0 hs hcu hk hd
  go_enter Tryd.func27, Tryd.ntmps27
  go_wp2_with fail
  refine (unhide HC).mono ?_
  rintro e w1 ⟨rfl, hb1⟩
  have HB := hide hb1
  clear hb1 HC
  go_wp2_with fail
  go_loopw [19, 4, 5, 6] (fun vi va vb vl wr => ∃ i : Nat, vi = .int .i64 (i : Int) ∧ i ≤ n ∧ va = .int .i64 (((aca d n i).1 : Nat) : Int) ∧ vb = .int .i64 (((aca d n i).2.1 : Nat) : Int) ∧ vl = .int .i64 (aca d n i).2.2 ∧ Below w.heap.size w wr) (fun vi _ _ _ _ => n - (intOf vi).toNat)
  case atStart => exact ⟨0, rfl, Nat.zero_le _, rfl, rfl, rfl, unhide HB⟩
  case round =>
    obtain ⟨i, rfl, hi, rfl, rfl, rfl, hb⟩ := hrel
    clear HB
    by_cases hlt : i < n
    · have HF1 := hide (unhide HF i wr hlt hb)
      have HB := hide hb
      have HS : Hid (aca d n (i + 1) = acr d i (aca d n i) n) := rfl
      obtain ⟨t, ht⟩ : ∃ t, aca d n i = t := ⟨_, rfl⟩
      rw [ht] at HS ⊢
      have e1 : (i : Int) < (n : Int) := by omega
      have e2 : IntKind.i64.wrap ((i : Int) + 1) = ((i + 1 : Nat) : Int) := by rw [IntKind.wrap_i64]; omega
      clear hb ht
      go_wp2_with fail
      refine (unhide HF1).mono ?_
      intro e w2 hfar
      obtain ⟨G, hG, rfl, hO, hb2⟩ := unhide HFT i e wr w2 hfar
      have HO := hide hO
      have HB2 := hide (below_step (unhide HB) hb2)
      clear hfar hO hb2 hG HF1 HB
      go_wp2_with fail
      go_loopw [27, 4, 5, 6] (fun vk va vb vl w3 => ∃ k : Nat, vk = .int .i64 (k : Int) ∧ k ≤ n ∧ va = .int .i64 (((acr d i t k).1 : Nat) : Int) ∧ vb = .int .i64 (((acr d i t k).2.1 : Nat) : Int) ∧ vl = .int .i64 (acr d i t k).2.2 ∧ w3 = w2) (fun vk _ _ _ _ => n - (intOf vk).toNat)
      case atStart => exact ⟨0, rfl, Nat.zero_le _, rfl, rfl, rfl, rfl⟩
      case round =>
        obtain ⟨k, rfl, hk, rfl, rfl, rfl, rfl⟩ := hrel
        by_cases hkl : k < n
        · have c0 := (unhide HO).cell hkl
          have HR : Hid (acr d i t (k + 1) = if (acr d i t k).2.2 < d i k then (i, k, d i k) else acr d i t k) := rfl
          obtain ⟨u, hu⟩ : ∃ u, acr d i t k = u := ⟨_, rfl⟩
          obtain ⟨x, hx⟩ : ∃ x, d i k = x := ⟨_, rfl⟩
          rw [hx] at c0
          rw [hu, hx] at HR
          rw [hu]
          have f1 : (0 : Int) ≤ (k : Int) := by omega
          have f2 : (k : Int) < (n : Int) := by omega
          have f3 : IntKind.i64.wrap ((k : Int) + 1) = ((k + 1 : Nat) : Int) := by rw [IntKind.wrap_i64]; omega
          clear hu hx
          by_cases hgt : u.2.2 < x
          · have HR2 : Hid (acr d i t (k + 1) = (i, k, x)) := by show _ = _; rw [unhide HR, if_pos hgt]
            go_wp2
            exact ⟨⟨k + 1, rfl, hkl, by rw [unhide HR2], by rw [unhide HR2], by rw [unhide HR2], by first | rfl | trivial⟩, by simp [intOf]; omega⟩
          · have HR2 : Hid (acr d i t (k + 1) = u) := by show _ = _; rw [unhide HR, if_neg hgt]
            go_wp2
            exact ⟨⟨k + 1, rfl, hkl, by rw [unhide HR2], by rw [unhide HR2], by rw [unhide HR2], by first | rfl | trivial⟩, by simp [intOf]; omega⟩
        · obtain rfl : k = n := by omega
          have f2 : ¬ (k : Int) < (k : Int) := by omega
          have HS2 := hide (unhide HS).symm
          obtain ⟨u, hu⟩ : ∃ u, acr d i t k = u := ⟨_, rfl⟩
          rw [hu] at HS2 ⊢
          clear hu HS
          go_wp2
          exact ⟨⟨i + 1, rfl, hlt, by rw [← unhide HS2], by rw [← unhide HS2], by rw [← unhide HS2], unhide HB2⟩, by simp [intOf]; omega⟩
    · obtain rfl : i = n := by omega
      have e1 : ¬ (i : Int) < (i : Int) := by omega
      have HB := hide hb
      obtain ⟨t, ht⟩ : ∃ t, aca d i i = t := ⟨_, rfl⟩
      rw [ht] at HFIN ⊢
      clear hb ht
      go_wp2
      (try simp only [Exit.inBlock, Exit.then])
      exact bodyPost_ret (v := .tuple #[.int .i64 (t.1 : Int), .int .i64 (t.2.1 : Int), .int .i64 t.2.2, .nilIface]) (by simp [results, Tryd.results27, go_sem]) rfl (unhide HFIN _ _ ⟨unhide HB, Or.inr ⟨rfl, rfl⟩⟩)
end Go.Proofs.YtcmddkekidgkoaaDoor
