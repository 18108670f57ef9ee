/- StopKelly: the walk. -/
import Derived.Test.YtgpolilpgkhlkaaDoorT29
namespace Go.Proofs.YtgpolilpgkhlkaaDoor
open Go.RowKit Go.Sort Go.Shelf

theorem three_any {P : Program} {ops : Array Oper} {Q : Exit → Act → World → Prop} {C : World → Prop} {md : Region.Mode} (mk : Bool × Bool × Bool → Array Bool) (r i j k : Nat) (I : Bool → Bool → Bool → Act → World → Prop)
    (hne : ∀ s : Bool × Bool × Bool, (s.2.1 && s.2.2) = false → (Region.ready md ops (mk s)).isEmpty = false)
    (hzx : ∀ y a w, ¬ I false y true a w)
    (hck : ∀ s : Bool × Bool × Bool, (s.2.1 && s.2.2) = false → (Region.ready md ops (mk s)).all (fun m => match nx3 i j k s m with | some s' => ((mk s).setIfInBounds m true == mk s') && (fu3 r s == fu3 r s' + 1) | none => false) = true)
    (hA : ∀ y z a w, I false y z a w → wpOp P ops Q i (fun a' w' => C w' ∧ I true y z a' w') a w)
    (hB : ∀ x z a w, I x false z a w → wpOp P ops Q j (fun a' w' => C w' ∧ I x true z a' w') a w)
    (hK : ∀ y a w, I true y false a w → wpOp P ops Q k (fun a' w' => C w' ∧ I true y true a' w') a w)
    (hf : ∀ a w, I true true true a w → wpHold P md ops Q C r (mk (true, true, true)) a w) : ∀ a w, I false false false a w → wpHold P md ops Q C (r + 3) (mk (false, false, false)) a w := by
  intro a w h
  refine walk_any mk (fu3 r) (fun s => s.2.1 && s.2.2) (nx3 i j k) (fun s a w => I s.1 s.2.1 s.2.2 a w) hne ?_ ?_ ?_ (r + 3) (false, false, false) rfl a w h
  · intro s hs
    have h1 := hck s hs
    rw [List.all_eq_true] at h1 ⊢
    intro m hm
    have h2 := h1 m hm
    cases e : nx3 i j k s m with
    | none => rw [e] at h2; cases h2
    | some s' => rw [e] at h2; exact h2
  · rintro ⟨x, y, z⟩ m s' hs a w h
    unfold nx3 at hs
    by_cases h1 : m = i ∧ x = false
    · obtain ⟨rfl, rfl⟩ := h1
      rw [if_pos ⟨rfl, rfl⟩] at hs
      injection hs with hs
      subst hs
      exact hA y z a w h
    · rw [if_neg h1] at hs
      by_cases h2 : m = j ∧ y = false
      · obtain ⟨rfl, rfl⟩ := h2
        rw [if_pos ⟨rfl, rfl⟩] at hs
        injection hs with hs
        subst hs
        exact hB x z a w h
      · rw [if_neg h2] at hs
        by_cases h3 : m = k ∧ x = true ∧ z = false
        · obtain ⟨rfl, rfl, rfl⟩ := h3
          rw [if_pos ⟨rfl, rfl, rfl⟩] at hs
          injection hs with hs
          subst hs
          exact hK y a w h
        · rw [if_neg h3] at hs; cases hs
  · rintro ⟨x, y, z⟩ hs a w h
    cases y with
    | false => cases hs
    | true => cases z with
      | false => cases hs
      | true => cases x with
        | false => exact absurd h (hzx _ _ _)
        | true => exact hf a w h
theorem cbx_below {w w' : World} {b12 b14 : Nat} {tx tz : Tri} (h : (fun w' : World => (w'.cell? ⟨b12, 0, none⟩ = some (.bool tx.s) ∧ w'.cell? ⟨b12, 1, none⟩ = some (.slice tx.a1 tx.n1 tx.c1) ∧ w'.cell? ⟨b12, 2, none⟩ = some (.slice tx.a2 tx.n2 tx.c2)) ∧ w'.cell? ⟨b14, 0, none⟩ = some (.bool tz.s) ∧ w'.cell? ⟨b14, 1, none⟩ = some (.slice tz.a1 tz.n1 tz.c1) ∧ w'.cell? ⟨b14, 2, none⟩ = some (.slice tz.a2 tz.n2 tz.c2)) w) (hb : Below w.heap.size w w') (h1 : b12 < w.heap.size) (h2 : b14 < w.heap.size) : (fun w' : World => (w'.cell? ⟨b12, 0, none⟩ = some (.bool tx.s) ∧ w'.cell? ⟨b12, 1, none⟩ = some (.slice tx.a1 tx.n1 tx.c1) ∧ w'.cell? ⟨b12, 2, none⟩ = some (.slice tx.a2 tx.n2 tx.c2)) ∧ w'.cell? ⟨b14, 0, none⟩ = some (.bool tz.s) ∧ w'.cell? ⟨b14, 1, none⟩ = some (.slice tz.a1 tz.n1 tz.c1) ∧ w'.cell? ⟨b14, 2, none⟩ = some (.slice tz.a2 tz.n2 tz.c2)) w' := by
  obtain ⟨⟨z0, z1, z2⟩, z3, z4, z5⟩ := h
  refine ⟨⟨?_, ?_, ?_⟩, ?_, ?_, ?_⟩
  · rw [hb.cell (p := ⟨b12, 0, none⟩) h1]; exact z0
  · rw [hb.cell (p := ⟨b12, 1, none⟩) h1]; exact z1
  · rw [hb.cell (p := ⟨b12, 2, none⟩) h1]; exact z2
  · rw [hb.cell (p := ⟨b14, 0, none⟩) h2]; exact z3
  · rw [hb.cell (p := ⟨b14, 1, none⟩) h2]; exact z4
  · rw [hb.cell (p := ⟨b14, 2, none⟩) h2]; exact z5
theorem cbx_far {w w' : World} {r : Option Nat} {b12 b14 : Nat} {tx tz : Tri} (h : (fun w' : World => (w'.cell? ⟨b12, 0, none⟩ = some (.bool tx.s) ∧ w'.cell? ⟨b12, 1, none⟩ = some (.slice tx.a1 tx.n1 tx.c1) ∧ w'.cell? ⟨b12, 2, none⟩ = some (.slice tx.a2 tx.n2 tx.c2)) ∧ w'.cell? ⟨b14, 0, none⟩ = some (.bool tz.s) ∧ w'.cell? ⟨b14, 1, none⟩ = some (.slice tz.a1 tz.n1 tz.c1) ∧ w'.cell? ⟨b14, 2, none⟩ = some (.slice tz.a2 tz.n2 tz.c2)) w) (hg : w.grownBy w' r) (hne : ∀ k, r = some k → k ≠ b12 ∧ k ≠ b14) (h1 : b12 < w.heap.size) (h2 : b14 < w.heap.size) : (fun w' : World => (w'.cell? ⟨b12, 0, none⟩ = some (.bool tx.s) ∧ w'.cell? ⟨b12, 1, none⟩ = some (.slice tx.a1 tx.n1 tx.c1) ∧ w'.cell? ⟨b12, 2, none⟩ = some (.slice tx.a2 tx.n2 tx.c2)) ∧ w'.cell? ⟨b14, 0, none⟩ = some (.bool tz.s) ∧ w'.cell? ⟨b14, 1, none⟩ = some (.slice tz.a1 tz.n1 tz.c1) ∧ w'.cell? ⟨b14, 2, none⟩ = some (.slice tz.a2 tz.n2 tz.c2)) w' := by
  obtain ⟨⟨z0, z1, z2⟩, z3, z4, z5⟩ := h
  have n1 : ∀ o : Nat, w'.cell? ⟨b12, o, none⟩ = w.cell? ⟨b12, o, none⟩ := fun o => hg.cell_far ⟨b12, o, none⟩ h1 (fun e => (hne b12 e.symm).1 rfl)
  have n2 : ∀ o : Nat, w'.cell? ⟨b14, o, none⟩ = w.cell? ⟨b14, o, none⟩ := fun o => hg.cell_far ⟨b14, o, none⟩ h2 (fun e => (hne b14 e.symm).2 rfl)
  refine ⟨⟨?_, ?_, ?_⟩, ?_, ?_, ?_⟩
  · rw [n1]; exact z0
  · rw [n1]; exact z1
  · rw [n1]; exact z2
  · rw [n2]; exact z3
  · rw [n2]; exact z4
  · rw [n2]; exact z5
/-- A literal's cells. -/
theorem news_at {W : World} {b : Nat} {t : Tri} (h : W.heap[b]? = some (.cells #[.bool t.s, .slice t.a1 t.n1 t.c1, .slice t.a2 t.n2 t.c2] 35)) : ∀ j u, t.cells[j]? = some u → W.cell? ((⟨b, 0, none⟩ : Addr).add j) = some u :=
  World.news_of_block (cs := #[.bool t.s, .slice t.a1 t.n1 t.c1, .slice t.a2 t.n2 t.c2]) (t := 35) (fr := (0, 0)) h
/-- What stands while three rows are appended to. -/
structure KelJ (V W0 : World) (C : World → Prop) (vp vq vy : Value) (tp tq ty : List Tri) (P Q Y : List Rat) (tx tz : Tri) (x y z : Bool) (W : World) (s1 s2 s3 : Value) : Prop where
  c : C W
  sz : W0.heap.size ≤ W.heap.size
  rx : RatIs W tx.val P[tp.length]!
  rz : RatIs W tz.val Q[tq.length]!
  lo : z = false → ThreeAt V W vp vq vy tp tq ty P Q Y
  hi : z = true → ∃ g cap, s3 = .slice (some ⟨g, 0, none⟩) (tp.length + 1) cap ∧ ThreeAt V W s3 vq vy (tp ++ [tx]) tq ty P Q Y
  a : x = true → ∃ b, s1 = .slice (some ⟨b, 0, none⟩) 1 1 ∧ W.heap[b]? = some (.cells #[.bool tx.s, .slice tx.a1 tx.n1 tx.c1, .slice tx.a2 tx.n2 tx.c2] 35) ∧ W0.heap.size ≤ b
  b : y = true → ∃ b, s2 = .slice (some ⟨b, 0, none⟩) 1 1 ∧ W.heap[b]? = some (.cells #[.bool tz.s, .slice tz.a1 tz.n1 tz.c1, .slice tz.a2 tz.n2 tz.c2] 35) ∧ W0.heap.size ≤ b
set_option maxHeartbeats 16000000 in
set_option maxRecDepth 100000 in
set_option linter.unusedSimpArgs false in
theorem stopKelly_any (v0 v1 : Value) (n0 n1 : Nat) (f0 f1 : Nat → Int) (w : World) (htab : Tab w) (h0 : NRow w v0 n0 f0) (h1 : NRow w v1 n1 f1) :
    Calls Tryd.prog 6 #[v0, v1] w fun e w' => e = .returned (.bool true) ∧ Below w.heap.size w w' := by
  have KKe : KK = 1099511627776 := rfl
  have HTB := hide htab
  have HN0 := hide h0
  have HN1 := hide h1
  obtain ⟨a0, c0, rfl, p1, p2, p3⟩ := h0
  obtain ⟨a1, c1, rfl, r1, r2, r3⟩ := h1
  obtain ⟨ti, hti, hz0, hz1, hz2⟩ := info_parts Tryd.infoR
  have HI := hide hti
  have HZ := hide hz0
  obtain ⟨cc, hcc⟩ : ∃ c : Nat → Nat, (fun i => 1 + pkv (f0 i) 6) = c := ⟨_, rfl⟩
  obtain ⟨bb, hbb⟩ : ∃ c : Nat → Nat, (fun i => 1 + pkv (f1 i) 9) = c := ⟨_, rfl⟩
  have HCC : Hid (∀ i, cc i = 1 + pkv (f0 i) 6) := fun i => by rw [← hcc]
  have HBB : Hid (∀ i, bb i = 1 + pkv (f1 i) 9) := fun i => by rw [← hbb]
  have HC1 : Hid (∀ i, 1 ≤ cc i) := fun i => by rw [← hcc]; show 1 ≤ 1 + _; omega
  have HB1 : Hid (∀ i, 1 ≤ bb i) := fun i => by rw [← hbb]; show 1 ≤ 1 + _; omega
  have HC6 : Hid (∀ i, cc i ≤ 6) := fun i => by rw [← hcc]; have := pkv_lt (f0 i) (n := 6) (by decide); show 1 + _ ≤ 6; omega
  have HB9 : Hid (∀ i, bb i ≤ 9) := fun i => by rw [← hbb]; have := pkv_lt (f1 i) (n := 9) (by decide); show 1 + _ ≤ 9; omega
  clear p3 r3 hti hz0 hcc hbb htab
  go_enter Tryd.func6, Tryd.ntmps6
  by_cases h5 : (5 : Int) < (n0 : Int)
  · go_wp2
    go_ret
    exact ⟨rfl, Below.refl _ _⟩
  by_cases h6 : (n1 : Int) < (n0 : Int)
  · go_wp2
    go_ret
    exact ⟨rfl, Below.refl _ _⟩
  go_wp2_with fail
  go_loopw [5, 6, 10] (fun va vb vi wr => ∃ (i : Nat), va = .int .i64 ((Stp.csum cc i : Nat) : Int) ∧ vb = .int .i64 ((Stp.csum bb i : Nat) : Int) ∧ vi = .int .i64 (i : Int) ∧ i ≤ n0 ∧ Below w.heap.size w wr) (fun _ _ vi _ => n0 - (intOf vi).toNat)
  case atStart => exact ⟨0, rfl, rfl, rfl, Nat.zero_le _, Below.refl _ _⟩
  case round =>
    obtain ⟨i, rfl, rfl, rfl, hi, hB⟩ := hrel
    have hc30 := csum_le (unhide HC6) i
    have hb45 := csum_le (unhide HB9) i
    obtain ⟨sa, hsa⟩ : ∃ s, Stp.csum cc i = s := ⟨_, rfl⟩
    obtain ⟨sb, hsb⟩ : ∃ s, Stp.csum bb i = s := ⟨_, rfl⟩
    rw [hsa] at hc30 ⊢
    rw [hsb] at hb45 ⊢
    have HSA := hide hsa
    have HSB := hide hsb
    have HB := hide hB
    by_cases hlt : i < n0
    · have g1 : (i : Int) < (n0 : Int) := by omega
      have g0 : (0 : Int) ≤ (i : Int) := by omega
      have g2 : (i : Int) < (n1 : Int) := by omega
      obtain ⟨a_x, c_x, e_x, _, _, h_x⟩ := (unhide HN0).below hB
      obtain ⟨bx, ox, eb_x, hl_x, hc_x⟩ := h_x (by omega)
      have ea_x : a0 = some ⟨bx, ox, none⟩ := by injection e_x with e1; rw [e1, eb_x]
      have k_x := hc_x i (by omega)
      clear e_x eb_x h_x hc_x
      obtain ⟨a_y, c_y, e_y, _, _, h_y⟩ := (unhide HN1).below hB
      obtain ⟨by_, oy, eb_y, hl_y, hc_y⟩ := h_y (by omega)
      have ea_y : a1 = some ⟨by_, oy, none⟩ := by injection e_y with e1; rw [e1, eb_y]
      have k_y := hc_y i (by omega)
      clear e_y eb_y h_y hc_y
      have hk0 := pkv_lt (f0 i) (n := 6) (by decide)
      have hk1 := pkv_lt (f1 i) (n := 9) (by decide)
      have e1 : IntKind.i64.wrap (1 + ((pkv (f0 i) 6 : Nat) : Int)) = ((cc i : Nat) : Int) := by rw [IntKind.wrap_i64, unhide HCC i]; omega
      have e2 : IntKind.i64.wrap (1 + ((pkv (f1 i) 9 : Nat) : Int)) = ((bb i : Nat) : Int) := by rw [IntKind.wrap_i64, unhide HBB i]; omega
      have hci := unhide HC6 i
      have hbi := unhide HB9 i
      have e3 : IntKind.i64.wrap ((sa : Int) + ((cc i : Nat) : Int)) = ((Stp.csum cc (i + 1) : Nat) : Int) := by
        rw [IntKind.wrap_i64]
        show _ = ((Stp.csum cc i + cc i : Nat) : Int)
        rw [unhide HSA]; omega
      have e4 : IntKind.i64.wrap ((sb : Int) + ((bb i : Nat) : Int)) = ((Stp.csum bb (i + 1) : Nat) : Int) := by
        rw [IntKind.wrap_i64]
        show _ = ((Stp.csum bb i + bb i : Nat) : Int)
        rw [unhide HSB]; omega
      rw [ea_x, ea_y]
      clear hB hsa hsb hk0 hk1
      go_wp2_with fail
      refine (pick_val (f0 i) 6 (by decide) (by decide) wr).mono ?_
      rintro e w1 ⟨rfl, rfl⟩
      go_wp2_with fail
      refine (pick_val (f1 i) 9 (by decide) (by decide) w1).mono ?_
      rintro e w2 ⟨rfl, rfl⟩
      go_wp2_with fail
      exact ⟨⟨i + 1, rfl, rfl, by go_num, hlt, unhide HB⟩, by simp [intOf]; omega⟩
    obtain rfl : n0 = i := by omega
    have g1 : ¬ (n0 : Int) < (n0 : Int) := by omega
    clear hB
    go_wp2_with fail
    clear g1
    obtain ⟨V, hV⟩ : ∃ V, wr = V := ⟨_, rfl⟩
    rw [hV] at HB ⊢
    clear hV
    have hsa30 : sa ≤ 30 := by omega
    have hsb45 : sb ≤ 45 := by omega
    go_loopw [7, 8, 9, 11] (fun vp vq vy vi wv => ∃ (i : Nat) (tp tq ty : List Tri), vi = .int .i64 (i : Int) ∧ i ≤ n0 ∧ tp.length = i ∧ tq.length = i ∧ ty.length = i ∧ ThreeAt V wv vp vq vy tp tq ty (row (shf cc sa) n0) (row (shf bb sb) n0) (row (fun _ => ((1 : Int) : Rat)) n0)) (fun _ _ _ vi _ => n0 - (intOf vi).toNat)
    case atStart => exact ⟨0, [], [], [], rfl, Nat.zero_le _, rfl, rfl, rfl, ThreeAt.start V _ _ _⟩
    case round =>
      obtain ⟨i, tp, tq, ty, rfl, hi, htp, htq, hty, T⟩ := hrel
      by_cases hlt : i < n0
      · have g1 : (i : Int) < (n0 : Int) := by omega
        have g0 : (0 : Int) ≤ (i : Int) := by omega
        have g2 : (i : Int) < (n1 : Int) := by omega
        have hsa1 : 1 ≤ sa := by rw [← unhide HSA]; exact Stp.csum_pos (by omega) (fun i _ => unhide HC1 i)
        have hsb1 : 1 ≤ sb := by rw [← unhide HSB]; exact Stp.csum_pos (by omega) (fun i _ => unhide HB1 i)
        obtain ⟨a_x, c_x, e_x, _, _, h_x⟩ := (unhide HN0).below (below_step (unhide HB) T.p.bl)
        obtain ⟨bx, ox, eb_x, hl_x, hc_x⟩ := h_x (by omega)
        have ea_x : a0 = some ⟨bx, ox, none⟩ := by injection e_x with e1; rw [e1, eb_x]
        have k_x := hc_x i (by omega)
        clear e_x eb_x h_x hc_x
        obtain ⟨a_y, c_y, e_y, _, _, h_y⟩ := (unhide HN1).below (below_step (unhide HB) T.p.bl)
        obtain ⟨by_, oy, eb_y, hl_y, hc_y⟩ := h_y (by omega)
        have ea_y : a1 = some ⟨by_, oy, none⟩ := by injection e_y with e1; rw [e1, eb_y]
        have k_y := hc_y i (by omega)
        clear e_y eb_y h_y hc_y
        have hk0 := pkv_lt (f0 i) (n := 6) (by decide)
        have hk1 := pkv_lt (f1 i) (n := 9) (by decide)
        have e1 : IntKind.i64.wrap (1 + ((pkv (f0 i) 6 : Nat) : Int)) = ((cc i : Nat) : Int) := by rw [IntKind.wrap_i64, unhide HCC i]; omega
        have e2 : IntKind.i64.wrap (1 + ((pkv (f1 i) 9 : Nat) : Int)) = ((bb i : Nat) : Int) := by rw [IntKind.wrap_i64, unhide HBB i]; omega
        have hci := unhide HC6 i
        have hbi := unhide HB9 i
        have HT := hide T
        have HTP := hide htp
        have HTQ := hide htq
        have HTY := hide hty
        have HO7 : Hid (∀ k, u7.ownBlock = some k → k < wr.heap.size) := fun k hk => (ownsR_block T.p.own k hk).2
        have HO8 : Hid (∀ k, u8.ownBlock = some k → k < wr.heap.size) := fun k hk => (ownsR_block T.q.own k hk).2
        have HO9 : Hid (∀ k, u9.ownBlock = some k → k < wr.heap.size) := fun k hk => (ownsR_block T.y.own k hk).2
        have HKY : Hid (∀ W, Below wr.heap.size wr W → W.cell? ⟨by_, oy + i, none⟩ = some (.int .i64 (f1 i))) := fun W hW => by rw [hW.cell (p := ⟨by_, oy + i, none⟩) hl_y]; exact k_y
        rw [ea_x, ea_y]
        clear T htp htq hty hk0 hk1
        go_wp2_with fail
        refine (pick_val (f0 i) 6 (by decide) (by decide) wr).mono ?_
        rintro e w1 ⟨rfl, rfl⟩
        go_wp2_with fail
        refine (of_any ((cc i : Nat) : Int) (sa : Int) (by omega) (by omega) (by omega) (by omega) (by omega) w1).mono ?_
        rintro e w2 ⟨v2, rfl, hv2, hb2⟩
        obtain ⟨tx, rfl, rx⟩ := tri_of hv2
        simp only [Tri.val]
        have bA := alloc_below w2 (.cells #[.bool tx.s, .slice tx.a1 tx.n1 tx.c1, .slice tx.a2 tx.n2 tx.c2] 35)
        have X1 := BoxIs.new rx
        obtain ⟨W1, hW1⟩ : ∃ W, w2.alloc (.cells #[.bool tx.s, .slice tx.a1 tx.n1 tx.c1, .slice tx.a2 tx.n2 tx.c2] 35) = W := ⟨_, rfl⟩
        obtain ⟨b12, hb12⟩ : ∃ b, w2.heap.size = b := ⟨_, rfl⟩
        rw [hW1] at bA X1
        rw [hb12] at X1
        have HX1 := hide X1
        have HG12 : Hid (w1.heap.size ≤ b12) := by show _ ≤ b12; rw [← hb12]; exact hb2.size
        have B1 := below_step hb2 bA
        have HW1 := hide B1
        have ky1 := unhide HKY W1 B1
        clear hv2 rx hb2 bA X1 B1
        go_wp2_with fail
        clear hW1 hb12
        refine (pick_val (f1 i) 9 (by decide) (by decide) W1).mono ?_
        rintro e w3 ⟨rfl, rfl⟩
        go_wp2_with fail
        refine (of_any ((bb i : Nat) : Int) (sb : Int) (by omega) (by omega) (by omega) (by omega) (by omega) w3).mono ?_
        rintro e w4 ⟨v4, rfl, hv4, hb4⟩
        obtain ⟨tz, rfl, rz⟩ := tri_of hv4
        simp only [Tri.val]
        have bA := alloc_below w4 (.cells #[.bool tz.s, .slice tz.a1 tz.n1 tz.c1, .slice tz.a2 tz.n2 tz.c2] 35)
        have X2 := BoxIs.new rz
        have Y1 := ((unhide HX1).keep hb4).keep bA
        obtain ⟨W2, hW2⟩ : ∃ W, w4.alloc (.cells #[.bool tz.s, .slice tz.a1 tz.n1 tz.c1, .slice tz.a2 tz.n2 tz.c2] 35) = W := ⟨_, rfl⟩
        obtain ⟨b14, hb14⟩ : ∃ b, w4.heap.size = b := ⟨_, rfl⟩
        rw [hW2] at bA X2 Y1
        rw [hb14] at X2
        have B2 := below_step (unhide HW1) (below_step hb4 bA)
        have HT2 := hide ((unhide HT).keep B2)
        have HG14 : w1.heap.size ≤ b14 := by rw [← hb14]; exact Nat.le_trans (unhide HW1).size hb4.size
        have hg12 := unhide HG12
        have HNE7 : Hid (∀ k, u7.ownBlock = some k → k < W2.heap.size ∧ k ≠ b12 ∧ k ≠ b14) := fun k hk => by have h1 := unhide HO7 k hk; have h2 := B2.size; exact ⟨by omega, by omega, by omega⟩
        have HNE8 : Hid (∀ k, u8.ownBlock = some k → k < W2.heap.size ∧ k ≠ b12 ∧ k ≠ b14) := fun k hk => by have h1 := unhide HO8 k hk; have h2 := B2.size; exact ⟨by omega, by omega, by omega⟩
        have HNE9 : Hid (∀ k, u9.ownBlock = some k → k < W2.heap.size ∧ k ≠ b12 ∧ k ≠ b14) := fun k hk => by have h1 := unhide HO9 k hk; have h2 := B2.size; exact ⟨by omega, by omega, by omega⟩
        have HLT12 := hide Y1.lt
        have HLT14 := hide X2.lt
        have HCB : Hid (∀ W, Below W2.heap.size W2 W → (fun w' : World => (w'.cell? ⟨b12, 0, none⟩ = some (.bool tx.s) ∧ w'.cell? ⟨b12, 1, none⟩ = some (.slice tx.a1 tx.n1 tx.c1) ∧ w'.cell? ⟨b12, 2, none⟩ = some (.slice tx.a2 tx.n2 tx.c2)) ∧ w'.cell? ⟨b14, 0, none⟩ = some (.bool tz.s) ∧ w'.cell? ⟨b14, 1, none⟩ = some (.slice tz.a1 tz.n1 tz.c1) ∧ w'.cell? ⟨b14, 2, none⟩ = some (.slice tz.a2 tz.n2 tz.c2)) W) := fun W hW => ⟨Y1.cells W hW, X2.cells W hW⟩
        have HRX : Hid (RatIs W2 tx.val (row (shf cc sa) n0)[tp.length]!) := by show RatIs _ _ _; rw [unhide HTP, row_get hlt]; exact Y1.2
        have HRZ : Hid (RatIs W2 tz.val (row (shf bb sb) n0)[tq.length]!) := by show RatIs _ _ _; rw [unhide HTQ, row_get hlt]; exact X2.2
        have HL56 : Hid (∀ k, k ≤ 5 → (k + 1) * 56 ≤ 140737488355328) := fun k hk => by omega
        have HL63 : Hid (∀ k, k ≤ 5 → k + 1 ≤ maxLen) := fun k hk => by unfold maxLen; omega
        clear hv4 rz hb4 bA X2 Y1 B2 HX1 HW1 HT HG14 hg12 HO7 HO8 HO9 HKY ky1
        go_wp2_with fail
        clear hW2 hb14
        refine wp_region_hold (fun w' : World => (w'.cell? ⟨b12, 0, none⟩ = some (.bool tx.s) ∧ w'.cell? ⟨b12, 1, none⟩ = some (.slice tx.a1 tx.n1 tx.c1) ∧ w'.cell? ⟨b12, 2, none⟩ = some (.slice tx.a2 tx.n2 tx.c2)) ∧ w'.cell? ⟨b14, 0, none⟩ = some (.bool tz.s) ∧ w'.cell? ⟨b14, 1, none⟩ = some (.slice tz.a1 tz.n1 tz.c1) ∧ w'.cell? ⟨b14, 2, none⟩ = some (.slice tz.a2 tz.n2 tz.c2)) (by kernel_rfl) ?_
        have bd0 : Below W2.heap.size W2 W2.drew := (Below.refl _ _).drew
        obtain ⟨Wx, hWx⟩ : ∃ W, W2.drew = W := ⟨_, rfl⟩
        rw [hWx] at bd0 ⊢
        have hC0 : (fun w' : World => (w'.cell? ⟨b12, 0, none⟩ = some (.bool tx.s) ∧ w'.cell? ⟨b12, 1, none⟩ = some (.slice tx.a1 tx.n1 tx.c1) ∧ w'.cell? ⟨b12, 2, none⟩ = some (.slice tx.a2 tx.n2 tx.c2)) ∧ w'.cell? ⟨b14, 0, none⟩ = some (.bool tz.s) ∧ w'.cell? ⟨b14, 1, none⟩ = some (.slice tz.a1 tz.n1 tz.c1) ∧ w'.cell? ⟨b14, 2, none⟩ = some (.slice tz.a2 tz.n2 tz.c2)) Wx := unhide HCB _ bd0
        refine wpHold_take (i := 0) (v := ?_) rfl (by kernel_rfl) (by kernel_rfl) (by kernel_rfl) (fun _ _ _ h => h) (Or.inl ⟨by rfl, ?_⟩) hC0 ?_
        rotate_left
        · intro w hSw; clear hSw; go_simp; (try with_reducible rfl)
        (try simp only [List.getElem_toArray, List.getElem_cons_succ, List.getElem_cons_zero])
        (try simp only [Act.put, List.setIfInBounds_toArray, List.set_cons_zero, List.set_cons_succ])
        refine wpHold_take (i := 4) (v := ?_) rfl (by kernel_rfl) (by kernel_rfl) (by kernel_rfl) (fun _ _ _ h => h) (Or.inl ⟨by rfl, ?_⟩) hC0 ?_
        rotate_left
        · intro w hSw; clear hSw; go_simp; (try with_reducible rfl)
        (try simp only [List.getElem_toArray, List.getElem_cons_succ, List.getElem_cons_zero])
        (try simp only [Act.put, List.setIfInBounds_toArray, List.set_cons_zero, List.set_cons_succ])
        refine wpHold_take (i := 8) (v := ?_) rfl (by kernel_rfl) (by kernel_rfl) (by kernel_rfl) (fun _ _ _ h => h) (Or.inl ⟨by rfl, ?_⟩) hC0 ?_
        rotate_left
        · intro w hSw; clear hSw; go_simp; (try with_reducible rfl)
        (try simp only [List.getElem_toArray, List.getElem_cons_succ, List.getElem_cons_zero])
        (try simp only [Act.put, List.setIfInBounds_toArray, List.set_cons_zero, List.set_cons_succ])
        refine wpHold_take (i := 1) (v := ?_) rfl (by kernel_rfl) (by kernel_rfl) (by kernel_rfl) (fun _ _ _ h => h) (Or.inl ⟨by rfl, ?_⟩) hC0 ?_
        rotate_left
        · intro w hSw; (try dsimp only at hSw); obtain ⟨⟨z0, z1, z2⟩, z3, z4, z5⟩ := hSw; go_simp; (try with_reducible rfl)
        (try simp only [List.getElem_toArray, List.getElem_cons_succ, List.getElem_cons_zero])
        (try simp only [Act.put, List.setIfInBounds_toArray, List.set_cons_zero, List.set_cons_succ])
        refine wpHold_take (i := 5) (v := ?_) rfl (by kernel_rfl) (by kernel_rfl) (by kernel_rfl) (fun _ _ _ h => h) (Or.inl ⟨by rfl, ?_⟩) hC0 ?_
        rotate_left
        · intro w hSw; (try dsimp only at hSw); obtain ⟨⟨z0, z1, z2⟩, z3, z4, z5⟩ := hSw; go_simp; (try with_reducible rfl)
        (try simp only [List.getElem_toArray, List.getElem_cons_succ, List.getElem_cons_zero])
        (try simp only [Act.put, List.setIfInBounds_toArray, List.set_cons_zero, List.set_cons_succ])
        refine wpHold_listed (n := 10) (L' := (fun x : Bool × Bool × Bool => #[true, true, (x.1 || x.2.2), x.2.2, true, true, x.2.1, false, true, false, false, false, false, false, false]) (false, false, false)) (by kernel_rfl) (by kernel_rfl) ?_
        refine wpHold_name (fun a0 ha0 => ?_)
        refine three_any (fun x : Bool × Bool × Bool => #[true, true, (x.1 || x.2.2), x.2.2, true, true, x.2.1, false, true, false, false, false, false, false, false]) 7 2 6 3 (fun x y z na W => ∃ s1 s2 s3, na = ((a0.put (some 85) s1).put (some 89) s2).put (some 86) s3 ∧ (z = true → x = true) ∧ KelJ V Wx (fun w' : World => (w'.cell? ⟨b12, 0, none⟩ = some (.bool tx.s) ∧ w'.cell? ⟨b12, 1, none⟩ = some (.slice tx.a1 tx.n1 tx.c1) ∧ w'.cell? ⟨b12, 2, none⟩ = some (.slice tx.a2 tx.n2 tx.c2)) ∧ w'.cell? ⟨b14, 0, none⟩ = some (.bool tz.s) ∧ w'.cell? ⟨b14, 1, none⟩ = some (.slice tz.a1 tz.n1 tz.c1) ∧ w'.cell? ⟨b14, 2, none⟩ = some (.slice tz.a2 tz.n2 tz.c2)) u7 u8 u9 tp tq ty (row (shf cc sa) n0) (row (shf bb sb) n0) (row (fun _ => ((1 : Int) : Rat)) n0) tx tz x y z W s1 s2 s3) ?_ (fun y a w h => by obtain ⟨s1, s2, s3, _, hh, _⟩ := h; exact absurd (hh rfl) (by decide)) ?_ ?_ ?_ ?_ ?_ _ _ ⟨u85, u89, u86, by subst ha0; rfl, fun h => (by cases h), hC0, Nat.le_refl _, (unhide HRX).below bd0, (unhide HRZ).below bd0, fun _ => (unhide HT2).keep bd0, fun h => (by cases h), fun h => (by cases h), fun h => (by cases h)⟩
        · clear ha0
          rintro ⟨x, y, z⟩ hs
          match x, y, z, hs with
          | false, false, false, _ => (show (_ : Bool) = _; kernel_rfl)
          | false, false, true, _ => (show (_ : Bool) = _; kernel_rfl)
          | false, true, false, _ => (show (_ : Bool) = _; kernel_rfl)
          | true, false, false, _ => (show (_ : Bool) = _; kernel_rfl)
          | true, false, true, _ => (show (_ : Bool) = _; kernel_rfl)
          | true, true, false, _ => (show (_ : Bool) = _; kernel_rfl)
        · clear ha0
          rintro ⟨x, y, z⟩ hs
          match x, y, z, hs with
          | false, false, false, _ => (show (_ : Bool) = _; kernel_rfl)
          | false, false, true, _ => (show (_ : Bool) = _; kernel_rfl)
          | false, true, false, _ => (show (_ : Bool) = _; kernel_rfl)
          | true, false, false, _ => (show (_ : Bool) = _; kernel_rfl)
          | true, false, true, _ => (show (_ : Bool) = _; kernel_rfl)
          | true, true, false, _ => (show (_ : Bool) = _; kernel_rfl)
        · rintro y z na wv ⟨s1, s2, s3, rfl, hzx, J⟩
          have hz0' : z = false := by
            cases z with
            | false => rfl
            | true => exact absurd (hzx rfl) (by decide)
          subst hz0'
          subst ha0
          have hb := alloc_below wv (.cells #[.bool tx.s, .slice tx.a1 tx.n1 tx.c1, .slice tx.a2 tx.n2 tx.c2] 35)
          have hn := heap_alloc_new wv (.cells #[.bool tx.s, .slice tx.a1 tx.n1 tx.c1, .slice tx.a2 tx.n2 tx.c2] 35)
          refine wpOp_step rfl (fun K hK => ?_)
          (try simp only [Act.put, List.setIfInBounds_toArray, List.set_cons_zero, List.set_cons_succ] at hK ⊢)
          (try simp only [List.getElem_toArray, List.getElem_cons_succ, List.getElem_cons_zero])
          go_simp
          have hC' : (fun w' : World => (w'.cell? ⟨b12, 0, none⟩ = some (.bool tx.s) ∧ w'.cell? ⟨b12, 1, none⟩ = some (.slice tx.a1 tx.n1 tx.c1) ∧ w'.cell? ⟨b12, 2, none⟩ = some (.slice tx.a2 tx.n2 tx.c2)) ∧ w'.cell? ⟨b14, 0, none⟩ = some (.bool tz.s) ∧ w'.cell? ⟨b14, 1, none⟩ = some (.slice tz.a1 tz.n1 tz.c1) ∧ w'.cell? ⟨b14, 2, none⟩ = some (.slice tz.a2 tz.n2 tz.c2)) (wv.alloc (.cells #[.bool tx.s, .slice tx.a1 tx.n1 tx.c1, .slice tx.a2 tx.n2 tx.c2] 35)) := cbx_below J.c hb (Nat.lt_of_lt_of_le (unhide HLT12) (Nat.le_trans bd0.size J.sz)) (Nat.lt_of_lt_of_le (unhide HLT14) (Nat.le_trans bd0.size J.sz))
          exact hK _ _ ⟨hC', _, s2, s3, rfl, (by simp), hC', Nat.le_trans J.sz hb.size, J.rx.below hb, J.rz.below hb, fun h => (J.lo h).keep hb, fun h => (by cases h), fun _ => ⟨_, rfl, hn, J.sz⟩, fun h => by
            obtain ⟨b, e1, e2, e3⟩ := J.b h
            exact ⟨b, e1, heap_kept e2 hb, e3⟩⟩
        · rintro x z na wv ⟨s1, s2, s3, rfl, hzx, J⟩
          subst ha0
          have hb := alloc_below wv (.cells #[.bool tz.s, .slice tz.a1 tz.n1 tz.c1, .slice tz.a2 tz.n2 tz.c2] 35)
          have hn := heap_alloc_new wv (.cells #[.bool tz.s, .slice tz.a1 tz.n1 tz.c1, .slice tz.a2 tz.n2 tz.c2] 35)
          refine wpOp_step rfl (fun K hK => ?_)
          (try simp only [Act.put, List.setIfInBounds_toArray, List.set_cons_zero, List.set_cons_succ] at hK ⊢)
          (try simp only [List.getElem_toArray, List.getElem_cons_succ, List.getElem_cons_zero])
          go_simp
          have hC' : (fun w' : World => (w'.cell? ⟨b12, 0, none⟩ = some (.bool tx.s) ∧ w'.cell? ⟨b12, 1, none⟩ = some (.slice tx.a1 tx.n1 tx.c1) ∧ w'.cell? ⟨b12, 2, none⟩ = some (.slice tx.a2 tx.n2 tx.c2)) ∧ w'.cell? ⟨b14, 0, none⟩ = some (.bool tz.s) ∧ w'.cell? ⟨b14, 1, none⟩ = some (.slice tz.a1 tz.n1 tz.c1) ∧ w'.cell? ⟨b14, 2, none⟩ = some (.slice tz.a2 tz.n2 tz.c2)) (wv.alloc (.cells #[.bool tz.s, .slice tz.a1 tz.n1 tz.c1, .slice tz.a2 tz.n2 tz.c2] 35)) := cbx_below J.c hb (Nat.lt_of_lt_of_le (unhide HLT12) (Nat.le_trans bd0.size J.sz)) (Nat.lt_of_lt_of_le (unhide HLT14) (Nat.le_trans bd0.size J.sz))
          exact hK _ _ ⟨hC', s1, _, s3, rfl, hzx, hC', Nat.le_trans J.sz hb.size, J.rx.below hb, J.rz.below hb, fun h => (J.lo h).keep hb, fun h => by
            obtain ⟨g, cap, e1, e2⟩ := J.hi h
            exact ⟨g, cap, e1, e2.keep hb⟩, fun h => by
            obtain ⟨b, e1, e2, e3⟩ := J.a h
            exact ⟨b, e1, heap_kept e2 hb, e3⟩, fun _ => ⟨_, rfl, hn, J.sz⟩⟩
        · rintro y na wv ⟨s1, s2, s3, rfl, hzx, J⟩
          subst ha0
          obtain ⟨b, rfl, hb2, hb3⟩ := J.a rfl
          have T := J.lo rfl
          refine wpOp_step rfl (fun K hK => ?_)
          refine step_append_tri _ rfl _ _ _ rfl V.heap.size 35 ti 56 Tryd.underlying31 (unhide HI) (unhide HZ) hz1 hz2 _ tp.length (tcells tp) rfl T.p.own T.p.no ⟨b, 0, none⟩ 1 1 tx.cells rfl rfl (news_at hb2) (tri_one tx) tx.notWord (by decide) (unhide HL63 _ (by have h1 := unhide HTP; have h2 := unhide HTQ; have h3 := unhide HTY; omega)) (unhide HL56 _ (by have h1 := unhide HTP; have h2 := unhide HTQ; have h3 := unhide HTY; omega)) T.p.bl.size wv.heap.size rfl ?_
          intro g cap w5 own5 grow5 hat5 hlt5 hno5
          have hle := Nat.le_trans bd0.size J.sz
          have hno' : ∀ k, u7.ownBlock = some k → k < W2.heap.size ∧ k ≠ b12 ∧ k ≠ b14 := unhide HNE7
          have hC' : (fun w' : World => (w'.cell? ⟨b12, 0, none⟩ = some (.bool tx.s) ∧ w'.cell? ⟨b12, 1, none⟩ = some (.slice tx.a1 tx.n1 tx.c1) ∧ w'.cell? ⟨b12, 2, none⟩ = some (.slice tx.a2 tx.n2 tx.c2)) ∧ w'.cell? ⟨b14, 0, none⟩ = some (.bool tz.s) ∧ w'.cell? ⟨b14, 1, none⟩ = some (.slice tz.a1 tz.n1 tz.c1) ∧ w'.cell? ⟨b14, 2, none⟩ = some (.slice tz.a2 tz.n2 tz.c2)) w5 := cbx_far J.c grow5 (fun k hk => ⟨(hno' k hk).2.1, (hno' k hk).2.2⟩) (Nat.lt_of_lt_of_le (unhide HLT12) hle) (Nat.lt_of_lt_of_le (unhide HLT14) hle)
          exact hK _ _ ⟨hC', _, s2, _, rfl, (by simp), hC', Nat.le_trans J.sz grow5.size, J.rx.far grow5 T.p.no, J.rz.far grow5 T.p.no, fun h => (by cases h), fun _ => ⟨g, cap, rfl, T.push J.rx own5 grow5 hat5 hno5⟩, fun _ => ⟨b, rfl, by
            rw [grow5.block b (Array.getElem?_eq_some_iff.1 hb2).1 (fun e => by have e' : u7.ownBlock = some b := e.symm; have := (hno' b e').1; have := bd0.size; omega)]; exact hb2, hb3⟩, fun h => by
            obtain ⟨b', e1, e2, e3⟩ := J.b h
            exact ⟨b', e1, by rw [grow5.block b' (Array.getElem?_eq_some_iff.1 e2).1 (fun e => by have e' : u7.ownBlock = some b' := e.symm; have := (hno' b' e').1; have := bd0.size; omega)]; exact e2, e3⟩⟩
        rintro na wv ⟨s1, s2, s3, rfl, _, J⟩
        subst ha0
        obtain ⟨bA, rfl, hbA, hbA3⟩ := J.a rfl
        obtain ⟨bB, rfl, hbB, hbB3⟩ := J.b rfl
        obtain ⟨g7, cap7, rfl, T7⟩ := J.hi rfl
        have hle := Nat.le_trans bd0.size J.sz
        have hCv : (fun w' : World => (w'.cell? ⟨b12, 0, none⟩ = some (.bool tx.s) ∧ w'.cell? ⟨b12, 1, none⟩ = some (.slice tx.a1 tx.n1 tx.c1) ∧ w'.cell? ⟨b12, 2, none⟩ = some (.slice tx.a2 tx.n2 tx.c2)) ∧ w'.cell? ⟨b14, 0, none⟩ = some (.bool tz.s) ∧ w'.cell? ⟨b14, 1, none⟩ = some (.slice tz.a1 tz.n1 tz.c1) ∧ w'.cell? ⟨b14, 2, none⟩ = some (.slice tz.a2 tz.n2 tz.c2)) wv := J.c
        have TR := T7.rot
        refine wpHold_one (k := 7) (by kernel_rfl) rfl (fun K hK => ?_)
        refine step_append_tri _ rfl _ _ _ rfl V.heap.size 35 ti 56 Tryd.underlying31 (unhide HI) (unhide HZ) hz1 hz2 _ tq.length (tcells tq) rfl TR.p.own TR.p.no ⟨bB, 0, none⟩ 1 1 tz.cells rfl rfl (news_at hbB) (tri_one tz) tz.notWord (by decide) (unhide HL63 _ (by have h1 := unhide HTP; have h2 := unhide HTQ; have h3 := unhide HTY; omega)) (unhide HL56 _ (by have h1 := unhide HTP; have h2 := unhide HTQ; have h3 := unhide HTY; omega)) TR.p.bl.size wv.heap.size rfl ?_
        intro g8 cap8 w5 own5 grow5 hat5 hlt5 hno5
        have hno8 : ∀ k, u8.ownBlock = some k → k < W2.heap.size ∧ k ≠ b12 ∧ k ≠ b14 := unhide HNE8
        have hC5 : (fun w' : World => (w'.cell? ⟨b12, 0, none⟩ = some (.bool tx.s) ∧ w'.cell? ⟨b12, 1, none⟩ = some (.slice tx.a1 tx.n1 tx.c1) ∧ w'.cell? ⟨b12, 2, none⟩ = some (.slice tx.a2 tx.n2 tx.c2)) ∧ w'.cell? ⟨b14, 0, none⟩ = some (.bool tz.s) ∧ w'.cell? ⟨b14, 1, none⟩ = some (.slice tz.a1 tz.n1 tz.c1) ∧ w'.cell? ⟨b14, 2, none⟩ = some (.slice tz.a2 tz.n2 tz.c2)) w5 := cbx_far J.c grow5 (fun k hk => ⟨(hno8 k hk).2.1, (hno8 k hk).2.2⟩) (Nat.lt_of_lt_of_le (unhide HLT12) hle) (Nat.lt_of_lt_of_le (unhide HLT14) hle)
        have T8 := TR.push J.rz own5 grow5 hat5 hno5
        have hs5 : W2.heap.size ≤ w5.heap.size := Nat.le_trans hle grow5.size
        refine hK.out _ _ hC5 ?_
        clear hK K
        (try simp only [Act.put, List.setIfInBounds_toArray, List.set_cons_zero, List.set_cons_succ])
        refine wpHold_one (k := 9) (by kernel_rfl) rfl (fun K hK => ?_)
        (try simp only [List.getElem_toArray, List.getElem_cons_succ, List.getElem_cons_zero])
        go_simp
        refine (whole_any 1 (by decide) (by decide) w5).mono ?_
        rintro e w6 ⟨v6, rfl, hv6, hb6⟩
        obtain ⟨ton, rfl, r6⟩ := tri_of hv6
        simp only [Tri.val]
        have hC6 : (fun w' : World => (w'.cell? ⟨b12, 0, none⟩ = some (.bool tx.s) ∧ w'.cell? ⟨b12, 1, none⟩ = some (.slice tx.a1 tx.n1 tx.c1) ∧ w'.cell? ⟨b12, 2, none⟩ = some (.slice tx.a2 tx.n2 tx.c2)) ∧ w'.cell? ⟨b14, 0, none⟩ = some (.bool tz.s) ∧ w'.cell? ⟨b14, 1, none⟩ = some (.slice tz.a1 tz.n1 tz.c1) ∧ w'.cell? ⟨b14, 2, none⟩ = some (.slice tz.a2 tz.n2 tz.c2)) w6 := cbx_below hC5 hb6 (Nat.lt_of_lt_of_le (unhide HLT12) hs5) (Nat.lt_of_lt_of_le (unhide HLT14) hs5)
        have T9 := (T8.keep hb6).rot
        have hs6 : W2.heap.size ≤ w6.heap.size := Nat.le_trans hs5 hb6.size
        refine hK.out _ _ hC6 ?_
        clear hK K
        (try simp only [Act.put, List.setIfInBounds_toArray, List.set_cons_zero, List.set_cons_succ])
        have bL := alloc_below w6 (.cells #[.bool ton.s, .slice ton.a1 ton.n1 ton.c1, .slice ton.a2 ton.n2 ton.c2] 35)
        have nL := heap_alloc_new w6 (.cells #[.bool ton.s, .slice ton.a1 ton.n1 ton.c1, .slice ton.a2 ton.n2 ton.c2] 35)
        have hC7 : (fun w' : World => (w'.cell? ⟨b12, 0, none⟩ = some (.bool tx.s) ∧ w'.cell? ⟨b12, 1, none⟩ = some (.slice tx.a1 tx.n1 tx.c1) ∧ w'.cell? ⟨b12, 2, none⟩ = some (.slice tx.a2 tx.n2 tx.c2)) ∧ w'.cell? ⟨b14, 0, none⟩ = some (.bool tz.s) ∧ w'.cell? ⟨b14, 1, none⟩ = some (.slice tz.a1 tz.n1 tz.c1) ∧ w'.cell? ⟨b14, 2, none⟩ = some (.slice tz.a2 tz.n2 tz.c2)) (w6.alloc (.cells #[.bool ton.s, .slice ton.a1 ton.n1 ton.c1, .slice ton.a2 ton.n2 ton.c2] 35)) := cbx_below hC6 bL (Nat.lt_of_lt_of_le (unhide HLT12) hs6) (Nat.lt_of_lt_of_le (unhide HLT14) hs6)
        refine wpHold_one (k := 10) (by kernel_rfl) rfl (fun K hK => ?_)
        (try simp only [List.getElem_toArray, List.getElem_cons_succ, List.getElem_cons_zero])
        go_simp
        refine hK.out _ _ hC7 ?_
        clear hK K
        (try simp only [Act.put, List.setIfInBounds_toArray, List.set_cons_zero, List.set_cons_succ])
        have T10 := T9.keep bL
        have r7 : RatIs (w6.alloc (.cells #[.bool ton.s, .slice ton.a1 ton.n1 ton.c1, .slice ton.a2 ton.n2 ton.c2] 35)) ton.val (row (fun _ => ((1 : Int) : Rat)) n0)[ty.length]! := by
          rw [unhide HTY, row_get hlt]
          exact r6.below bL
        obtain ⟨w7, hw7⟩ : ∃ W, w6.alloc (.cells #[.bool ton.s, .slice ton.a1 ton.n1 ton.c1, .slice ton.a2 ton.n2 ton.c2] 35) = W := ⟨_, rfl⟩
        obtain ⟨bC, hbC⟩ : ∃ b, w6.heap.size = b := ⟨_, rfl⟩
        simp only [hw7, hbC]
        rw [hw7] at T10 r7 nL hC7 bL
        rw [hbC] at nL
        refine wpHold_one (k := 11) (by kernel_rfl) rfl (fun K hK => ?_)
        refine step_append_tri _ rfl _ _ _ rfl V.heap.size 35 ti 56 Tryd.underlying31 (unhide HI) (unhide HZ) hz1 hz2 _ ty.length (tcells ty) rfl T10.p.own T10.p.no ⟨bC, 0, none⟩ 1 1 ton.cells rfl rfl (news_at nL) (tri_one ton) ton.notWord (by decide) (unhide HL63 _ (by have h1 := unhide HTP; have h2 := unhide HTQ; have h3 := unhide HTY; omega)) (unhide HL56 _ (by have h1 := unhide HTP; have h2 := unhide HTQ; have h3 := unhide HTY; omega)) T10.p.bl.size w7.heap.size rfl ?_
        intro g9 cap9 w8 own8 grow8 hat8 hlt8 hno8'
        have hno9 : ∀ k, u9.ownBlock = some k → k < W2.heap.size ∧ k ≠ b12 ∧ k ≠ b14 := unhide HNE9
        have hs7 : W2.heap.size ≤ w7.heap.size := Nat.le_trans hs6 bL.size
        have hC8 : (fun w' : World => (w'.cell? ⟨b12, 0, none⟩ = some (.bool tx.s) ∧ w'.cell? ⟨b12, 1, none⟩ = some (.slice tx.a1 tx.n1 tx.c1) ∧ w'.cell? ⟨b12, 2, none⟩ = some (.slice tx.a2 tx.n2 tx.c2)) ∧ w'.cell? ⟨b14, 0, none⟩ = some (.bool tz.s) ∧ w'.cell? ⟨b14, 1, none⟩ = some (.slice tz.a1 tz.n1 tz.c1) ∧ w'.cell? ⟨b14, 2, none⟩ = some (.slice tz.a2 tz.n2 tz.c2)) w8 := cbx_far hC7 grow8 (fun k hk => ⟨(hno9 k hk).2.1, (hno9 k hk).2.2⟩) (Nat.lt_of_lt_of_le (unhide HLT12) hs7) (Nat.lt_of_lt_of_le (unhide HLT14) hs7)
        have T11 := T10.push r7 own8 grow8 hat8 hno8'
        have HF := hide T11.rot
        refine hK.out _ _ hC8 ?_
        clear hK K
        (try simp only [Act.put, List.setIfInBounds_toArray, List.set_cons_zero, List.set_cons_succ])
        refine wpHold_one (k := 12) (by kernel_rfl) rfl (fun K hK => ?_)
        (try simp only [List.getElem_toArray, List.getElem_cons_succ, List.getElem_cons_zero])
        go_simp
        refine hK.out _ _ hC8 ?_
        clear hK K
        (try simp only [Act.put, List.setIfInBounds_toArray, List.set_cons_zero, List.set_cons_succ])
        refine wpHold_one (k := 13) (by kernel_rfl) rfl (fun K hK => ?_)
        (try simp only [List.getElem_toArray, List.getElem_cons_succ, List.getElem_cons_zero])
        go_simp
        refine hK.out _ _ hC8 ?_
        clear hK K
        (try simp only [Act.put, List.setIfInBounds_toArray, List.set_cons_zero, List.set_cons_succ])
        refine wpHold_one (k := 14) (by kernel_rfl) rfl (fun K hK => ?_)
        (try simp only [List.getElem_toArray, List.getElem_cons_succ, List.getElem_cons_zero])
        go_simp
        refine hK.out _ _ hC8 ?_
        clear hK K
        (try simp only [Act.put, List.setIfInBounds_toArray, List.set_cons_zero, List.set_cons_succ])
        refine wpHold_done (by kernel_rfl) ?_ _
        have HE : Hid (i + 1 ≤ n0) := hlt
        go_wp2_with fail
        exact ⟨⟨i + 1, _, _, _, by go_num, hlt, by rw [List.length_append, unhide HTP]; rfl, by rw [List.length_append, unhide HTQ]; rfl, by rw [List.length_append, unhide HTY]; rfl, unhide HF⟩, by simp [intOf]; omega⟩
      obtain rfl : n0 = i := by omega
      have g1 : ¬ (n0 : Int) < (n0 : Int) := by omega
      have hsa' := unhide HSA
      have LP := law_of_owns T.p.own (by rw [htp, row_length]) T.p.rat
      have LQ := law_of_owns T.q.own (by rw [htq, row_length]) T.q.rat
      have LY := law_of_owns T.y.own (by rw [hty, row_length]) T.y.rat
      obtain ⟨ap, cp, rfl, _⟩ := id LP
      obtain ⟨aqq, cqq, rfl, _⟩ := id LQ
      obtain ⟨ayy, cyy, rfl, _⟩ := id LY
      rw [row_length] at LP LQ LY ⊢
      have HBW := hide (below_step (unhide HB) T.p.bl)
      have HLP := hide LP
      have HLQ := hide LQ
      have HLY := hide LY
      clear T LP LQ LY htp htq hty hsa'
      rw [row_length, row_length]
      go_wp2_with fail
      refine (half_any wr (tab_below (unhide HTB) (unhide HBW))).mono ?_
      rintro e w3 ⟨rfl, hb3⟩
      go_wp2_with fail
      refine (whole_any 1 (by decide) (by decide) w3).mono ?_
      rintro e w4 ⟨v4, rfl, hv4, hb4⟩
      obtain ⟨ta, rfl, ra⟩ := tri_of hv4
      simp only [Tri.val]
      go_wp2_with fail
      refine (whole_any 1 (by decide) (by decide) w4).mono ?_
      rintro e w5 ⟨v5, rfl, hv5, hb5⟩
      obtain ⟨tb, rfl, rb⟩ := tri_of hv5
      simp only [Tri.val]
      have HW6 : Hid (Below w5.heap.size w5 ((w5.alloc (.cells #[.bool ta.s, .slice ta.a1 ta.n1 ta.c1, .slice ta.a2 ta.n2 ta.c2] 35)).alloc (.cells #[.bool tb.s, .slice tb.a1 tb.n1 tb.c1, .slice tb.a2 tb.n2 tb.c2] 35))) := below_step (alloc_below w5 _) (alloc_below _ _)
      have X16 := (BoxIs.new (ra.below hb5)).keep (alloc_below _ (.cells #[.bool tb.s, .slice tb.a1 tb.n1 tb.c1, .slice tb.a2 tb.n2 tb.c2] 35))
      have X17 := BoxIs.new (rb.below (alloc_below w5 (.cells #[.bool ta.s, .slice ta.a1 ta.n1 ta.c1, .slice ta.a2 ta.n2 ta.c2] 35)))
      rw [alloc_size] at X17
      have HLP5 := hide ((((unhide HLP).below hb3).below hb4).below hb5)
      have HLQ5 := hide ((((unhide HLQ).below hb3).below hb4).below hb5)
      have HLY5 := hide ((((unhide HLY).below hb3).below hb4).below hb5)
      have HB5 := hide (below_step (unhide HBW) (below_step hb3 (below_step hb4 hb5)))
      obtain ⟨W6, hW6⟩ : ∃ W, (w5.alloc (.cells #[.bool ta.s, .slice ta.a1 ta.n1 ta.c1, .slice ta.a2 ta.n2 ta.c2] 35)).alloc (.cells #[.bool tb.s, .slice tb.a1 tb.n1 tb.c1, .slice tb.a2 tb.n2 tb.c2] 35) = W := ⟨_, rfl⟩
      obtain ⟨g16, hg16⟩ : ∃ b, w5.heap.size = b := ⟨_, rfl⟩
      obtain ⟨g17, hg17⟩ : ∃ b, g16 + 1 = b := ⟨_, rfl⟩
      rw [hW6] at X16 X17 HW6
      rw [hg16] at X16 X17
      rw [hg17] at X17
      have HX16 := hide X16
      have HX17 := hide X17
      have HG16 : Hid (w5.heap.size ≤ g16) := by show _ ≤ g16; omega
      have HG17 : Hid (w5.heap.size ≤ g17) := by show _ ≤ g17; omega
      have HN67 : Hid (g16 ≠ g17) := by show g16 ≠ g17; omega
      have H6 := hide hW6
      have Hg6 := hide hg16
      have Hg7 := hide hg17
      clear X16 X17 hW6 hg16 hg17 ra rb hv4 hv5 hb3 hb4 hb5 HLP HLQ HLY HBW
      go_wp2_with fail
      rw [unhide H6, unhide Hg6, unhide Hg7]
      clear H6 Hg6 Hg7 g1
      have hc6 := unhide HC6
      have HPR : Hid (∀ i, i < n0 → RS ((shf cc sa) i) 1) := fun i hi => shf_RS (by have := unhide HC6 i; omega) (by rw [← unhide HSA]; exact Stp.csum_pos (by omega) (fun i _ => unhide HC1 i)) (by omega)
      have HQR : Hid (∀ i, i < n0 → RS ((shf bb sb) i) 1) := fun i hi => shf_RS (by have := unhide HB9 i; omega) (by rw [← unhide HSB]; exact Stp.csum_pos (by omega) (fun i _ => unhide HB1 i)) (by omega)
      clear hc6
      go_loopw [18] (fun vi wr => ∃ (i : Nat) (to_ tr : Tri), vi = .int .i64 (i : Int) ∧ i ≤ n0 ∧ BoxIs wr g16 to_ (Stp.wpr (shf cc sa) cc i) ∧ BoxIs wr g17 tr (Stp.wpr (shf bb sb) cc i) ∧ Below w5.heap.size w5 wr) (fun vi _ => n0 - (intOf vi).toNat)
      case atStart => exact ⟨0, ta, tb, rfl, Nat.zero_le _, unhide HX16, unhide HX17, unhide HW6⟩
      case round =>
        obtain ⟨i, to_, tr, rfl, hi, X16, X17, hB⟩ := hrel
        clear HX16 HX17 HW6
        by_cases hlt : i < n0
        rotate_left
        · obtain rfl : n0 = i := by omega
          have g1 : ¬ (n0 : Int) < (n0 : Int) := by omega
          have ⟨y0, y1, y2⟩ := X16.cells _ (Below.refl _ _)
          have ⟨y3, y4, y5⟩ := X17.cells _ (Below.refl _ _)
          have hkel := kelly_is (c := cc) (b := bb) (n := n0) (unhide HC1) (unhide HB1)
          rw [unhide HSA, unhide HSB] at hkel
          have hle := cmpv_le hkel
          obtain ⟨yy, hyy⟩ : ∃ y, cmpv (Stp.wpr (shf bb sb) cc n0) (Stp.wpr (shf cc sa) cc n0) = y := ⟨_, rfl⟩
          have HCM := hide (cmpR_all tr.val to_.val _ _ wr X17.2 X16.2 50 ((wpr_RS (unhide HQR) (unhide HC6) n0 (Nat.le_refl _)).mono (by omega)) ((wpr_RS (unhide HPR) (unhide HC6) n0 (Nat.le_refl _)).mono (by omega)) (by rw [KKe]; omega))
          rw [hyy] at HCM hle
          have hle2 : yy ≤ 0 := hle.2
          have HBf := hide (below_step (unhide HB5) hB)
          clear X16 X17 hkel hle hyy hB
          go_wp2_with fail
          refine (unhide HCM).mono ?_
          rintro e w7 ⟨rfl, hb7⟩
          have HB7 := hide (below_step (unhide HBf) hb7)
          clear hb7 y0 y1 y2 y3 y4 y5
          go_wp2
          go_ret
          exact ⟨rfl, unhide HB7⟩
        have g1 : (i : Int) < (n0 : Int) := by omega
        have g0 : (0 : Int) ≤ (i : Int) := by omega
        obtain ⟨a_x, c_x, e_x, _, _, h_x⟩ := (unhide HN0).below (below_step (unhide HB5) hB)
        obtain ⟨bx, ox, eb_x, hl_x, hc_x⟩ := h_x (by omega)
        have ea_x : a0 = some ⟨bx, ox, none⟩ := by injection e_x with e1; rw [e1, eb_x]
        have k_x := hc_x i (by omega)
        clear e_x eb_x h_x hc_x
        rw [ea_x]
        have HK0 : Hid (∀ W, Below wr.heap.size wr W → W.cell? ⟨bx, ox + i, none⟩ = some (.int .i64 (f0 i))) := fun W hW => by rw [hW.cell (p := ⟨bx, ox + i, none⟩) hl_x]; exact k_x
        have hsa1 : 1 ≤ sa := by rw [← unhide HSA]; exact Stp.csum_pos (by omega) (fun i _ => unhide HC1 i)
        have HHO := hide (horse_any (.slice ap n0 cp) (.slice ayy n0 cyy) (row (shf cc sa) n0) (row (fun _ => ((1 : Int) : Rat)) n0) i wr ((unhide HLP5).below hB) ((unhide HLY5).below hB) (by
          have := shf_chk (c := cc) (n := n0) (by omega) (by omega) (unhide HC1)
          rw [unhide HSA] at this
          exact this) (by rw [row_length, row_length]) (fun j hj => by
          rw [row_length] at hj
          rw [row_get hj]; exact (by decide : (0 : Rat) < ((1 : Int) : Rat))) (by rw [row_length]; exact hlt) (fun j hj => by
          rw [row_length] at hj
          rw [row_get hj]; exact unhide HPR j hj) (fun j hj => by
          rw [row_length] at hj
          rw [row_get hj]; exact one_RS1) (by rw [row_length]; omega))
        rw [row_length, row_get hlt, row_get hlt] at HHO
        have HV1 : Hid ((shf cc sa) i * ((1 : Int) : Rat) = (shf cc sa) i) := Rat.mul_one _
        rw [unhide HV1] at HHO
        have HX16 := hide X16
        have HX17 := hide X17
        have HBR := hide hB
        clear X16 X17 hB k_x
        go_wp2_with fail
        refine (unhide HHO).mono ?_
        rintro e w7 ⟨ab, cb, vg, rfl, hvb, hvg, hb7⟩
        obtain ⟨tg, rfl, rg⟩ := tri_of hvg
        simp only [Tri.val]
        have bA := alloc_below w7 (.cells #[.bool tg.s, .slice tg.a1 tg.n1 tg.c1, .slice tg.a2 tg.n2 tg.c2] 35)
        have X20 := BoxIs.new rg
        have Y16 := ((unhide HX16).keep hb7).keep bA
        have Y17 := ((unhide HX17).keep hb7).keep bA
        have LB := hvb.below bA
        have B7 := below_step (unhide HBR) (below_step hb7 bA)
        have hg60 : g16 < w7.heap.size := ((unhide HX16).keep hb7).lt
        have hg70 : g17 < w7.heap.size := ((unhide HX17).keep hb7).lt
        have K7 := unhide HK0 _ (below_step hb7 bA)
        obtain ⟨W7, hW7⟩ : ∃ W, w7.alloc (.cells #[.bool tg.s, .slice tg.a1 tg.n1 tg.c1, .slice tg.a2 tg.n2 tg.c2] 35) = W := ⟨_, rfl⟩
        obtain ⟨g20, hg20⟩ : ∃ b, w7.heap.size = b := ⟨_, rfl⟩
        rw [hW7] at X20 Y16 Y17 LB B7 K7
        rw [hg20] at X20 hg60 hg70
        have HN60 : Hid (g16 ≠ g20) := by show g16 ≠ g20; omega
        have HN70 : Hid (g17 ≠ g20) := by show g17 ≠ g20; omega
        have HLK := hide (likes_any (.slice ab n0 cb) (.slice ap n0 cp) (row (shf cc sa) n0) W7 LB ((unhide HLP5).below B7) 1 (by rw [KKe]; omega) (fun j hj => by
          rw [row_length] at hj
          rw [row_get hj]; exact unhide HPR j hj) (tab_below (unhide HTB) (below_step (unhide HB5) B7)))
        have HY16 := hide Y16
        have HY17 := hide Y17
        have HY20 := hide X20
        have HB7 := hide B7
        have HG20 : Hid (w5.heap.size ≤ g20) := by show _ ≤ g20; have := (unhide HG16); omega
        clear hvb hvg rg hb7 bA X20 Y16 Y17 LB B7 hg60 hg70 HX16 HX17 HBR HHO HK0 K7
        go_wp2_with fail
        clear hW7 hg20
        refine (unhide HLK).mono ?_
        rintro e w8 ⟨rfl, hb8⟩
        have HX16 := hide ((unhide HY16).keep hb8)
        have HX17 := hide ((unhide HY17).keep hb8)
        have HX20 := hide ((unhide HY20).keep hb8)
        have HB8 := hide (below_step (unhide HB7) hb8)
        clear hb8 HLK HY16 HY17 HY20 HB7
        go_wp2_with fail
        go_loopw [22] (fun vk wv => ∃ (k : Nat) (to_ tr : Tri), vk = .int .i64 (k : Int) ∧ k ≤ cc i ∧ BoxIs wv g16 to_ (Stp.wpr (shf cc sa) cc i * Stp.pw ((shf cc sa) i) k) ∧ BoxIs wv g17 tr (Stp.wpr (shf bb sb) cc i * Stp.pw ((shf bb sb) i) k) ∧ BoxIs wv g20 tg ((shf cc sa) i) ∧ Below w5.heap.size w5 wv) (fun vk _ => cc i - (intOf vk).toNat)
        case atStart => exact ⟨0, _, _, rfl, Nat.zero_le _, by rw [show Stp.wpr (shf cc sa) cc i * Stp.pw ((shf cc sa) i) 0 = Stp.wpr (shf cc sa) cc i from Rat.mul_one _]; exact unhide HX16, by rw [show Stp.wpr (shf bb sb) cc i * Stp.pw ((shf bb sb) i) 0 = Stp.wpr (shf bb sb) cc i from Rat.mul_one _]; exact unhide HX17, unhide HX20, unhide HB8⟩
        case round =>
          obtain ⟨k, to_, tr, rfl, hk, X16, X17, X20, hB⟩ := hrel
          clear HX16 HX17 HX20 HB8
          obtain ⟨a_z, c_z, e_z, _, _, h_z⟩ := (unhide HN0).below (below_step (unhide HB5) hB)
          obtain ⟨b_z, o_z, eb_z, hl_z, hc_z⟩ := h_z (by omega)
          have k_z := hc_z i (by omega)
          have ebz : bx = b_z ∧ ox = o_z := by
            have h1 : a0 = a_z := by injection e_z
            rw [ea_x, eb_z] at h1
            injection h1 with h1
            injection h1 with h2 h3
            exact ⟨h2, h3⟩
          obtain ⟨rfl, rfl⟩ := ebz
          have hk0 := pkv_lt (f0 i) (n := 6) (by decide)
          have e1 : IntKind.i64.wrap (1 + ((pkv (f0 i) 6 : Nat) : Int)) = ((cc i : Nat) : Int) := by rw [IntKind.wrap_i64, unhide HCC i]; omega
          have HX16 := hide X16
          have HX17 := hide X17
          have HX20 := hide X20
          have HBR := hide hB
          obtain ⟨ci, hci⟩ : ∃ x, cc i = x := ⟨_, rfl⟩
          have HCI := hide hci
          have hci6 : ci ≤ 6 := by rw [← hci]; exact unhide HC6 i
          rw [hci] at hk e1
          clear X16 X17 X20 hB e_z eb_z h_z hc_z hk0 hci
          by_cases hltk : k < ci
          · have g2 : (k : Int) < (ci : Int) := by omega
            obtain ⟨a_q, c_q, e_q, _, _, h_q⟩ := (unhide HLQ5).below (unhide HBR)
            obtain ⟨bq, oq, eb_q, hl_q, hc_q⟩ := h_q (by rw [row_length]; omega)
            have ea_q : aqq = some ⟨bq, oq, none⟩ := by injection e_q with e1; rw [e1, eb_q]
            obtain ⟨q_s, q_p1, q_p2, q_n1, q_d1, q_n2, q_d2, kq0, kq1, kq2, r_q⟩ := hc_q i (by rw [row_length]; omega)
            obtain ⟨tq_, rfl, rfl, rfl, rfl, rfl, rfl, rfl⟩ : ∃ t : Tri, q_s = t.s ∧ q_p1 = t.a1 ∧ q_p2 = t.a2 ∧ q_n1 = t.n1 ∧ q_d1 = t.c1 ∧ q_n2 = t.n2 ∧ q_d2 = t.c2 := ⟨⟨q_s, q_p1, q_p2, q_n1, q_d1, q_n2, q_d2⟩, rfl, rfl, rfl, rfl, rfl, rfl, rfl⟩
            clear e_q eb_q h_q hc_q
            have HC28 : Hid (∀ W, Below wr.heap.size wr W → (fun w' : World => (w'.cell? ⟨g16, 0, none⟩ = some (.bool to_.s) ∧ w'.cell? ⟨g16, 1, none⟩ = some (.slice to_.a1 to_.n1 to_.c1) ∧ w'.cell? ⟨g16, 2, none⟩ = some (.slice to_.a2 to_.n2 to_.c2)) ∧ (w'.cell? ⟨g20, 0, none⟩ = some (.bool tg.s) ∧ w'.cell? ⟨g20, 1, none⟩ = some (.slice tg.a1 tg.n1 tg.c1) ∧ w'.cell? ⟨g20, 2, none⟩ = some (.slice tg.a2 tg.n2 tg.c2)) ∧ (w'.cell? ⟨g17, 0, none⟩ = some (.bool tr.s) ∧ w'.cell? ⟨g17, 1, none⟩ = some (.slice tr.a1 tr.n1 tr.c1) ∧ w'.cell? ⟨g17, 2, none⟩ = some (.slice tr.a2 tr.n2 tr.c2)) ∧ w'.cell? ⟨bq, oq + i * 3, none⟩ = some (.bool tq_.s) ∧ w'.cell? ⟨bq, oq + i * 3 + 1, none⟩ = some (.slice tq_.a1 tq_.n1 tq_.c1) ∧ w'.cell? ⟨bq, oq + i * 3 + 2, none⟩ = some (.slice tq_.a2 tq_.n2 tq_.c2)) W) := fun W hW => by
              refine ⟨(unhide HX16).cells W hW, (unhide HX20).cells W hW, (unhide HX17).cells W hW, ?_⟩
              rw [hW.cell (p := ⟨bq, oq + i * 3, none⟩) hl_q, hW.cell (p := ⟨bq, oq + i * 3 + 1, none⟩) hl_q, hW.cell (p := ⟨bq, oq + i * 3 + 2, none⟩) hl_q]; exact ⟨kq0, kq1, kq2⟩
            rw [row_get hlt] at r_q
            have HRQ0 := hide r_q
            have HRO : Hid (RS (Stp.wpr (shf cc sa) cc i * Stp.pw ((shf cc sa) i) k) 50) := RS.mono ((wpr_RS (unhide HPR) (unhide HC6) i (by omega)).mul (pw_RS (unhide HPR i hlt) k)) (by omega)
            have HRR : Hid (RS (Stp.wpr (shf bb sb) cc i * Stp.pw ((shf bb sb) i) k) 50) := RS.mono ((wpr_RS (unhide HQR) (unhide HC6) i (by omega)).mul (pw_RS (unhide HQR i hlt) k)) (by omega)
            have HRG : Hid (RS ((shf cc sa) i) 50) := (unhide HPR i hlt).mono (by omega)
            have HRQ : Hid (RS ((shf bb sb) i) 50) := (unhide HQR i hlt).mono (by omega)
            have HJ : Hid (50 + 50 + 1 ≤ KK) := by show _ ≤ _; rw [KKe]; omega
            have EP : Hid (Stp.wpr (shf cc sa) cc i * Stp.pw ((shf cc sa) i) k * (shf cc sa) i = Stp.wpr (shf cc sa) cc i * Stp.pw ((shf cc sa) i) (k + 1)) := Rat.mul_assoc _ _ _
            have EQ : Hid (Stp.wpr (shf bb sb) cc i * Stp.pw ((shf bb sb) i) k * (shf bb sb) i = Stp.wpr (shf bb sb) cc i * Stp.pw ((shf bb sb) i) (k + 1)) := Rat.mul_assoc _ _ _
            rw [ea_q]
            clear r_q kq0 kq1 kq2
            go_wp2_with fail
            refine (pick_val (f0 i) 6 (by decide) (by decide) wr).mono ?_
            rintro e w9 ⟨rfl, rfl⟩
            go_wp2_with fail
            refine wp_region_till (fun w' : World => (w'.cell? ⟨g16, 0, none⟩ = some (.bool to_.s) ∧ w'.cell? ⟨g16, 1, none⟩ = some (.slice to_.a1 to_.n1 to_.c1) ∧ w'.cell? ⟨g16, 2, none⟩ = some (.slice to_.a2 to_.n2 to_.c2)) ∧ (w'.cell? ⟨g20, 0, none⟩ = some (.bool tg.s) ∧ w'.cell? ⟨g20, 1, none⟩ = some (.slice tg.a1 tg.n1 tg.c1) ∧ w'.cell? ⟨g20, 2, none⟩ = some (.slice tg.a2 tg.n2 tg.c2)) ∧ (w'.cell? ⟨g17, 0, none⟩ = some (.bool tr.s) ∧ w'.cell? ⟨g17, 1, none⟩ = some (.slice tr.a1 tr.n1 tr.c1) ∧ w'.cell? ⟨g17, 2, none⟩ = some (.slice tr.a2 tr.n2 tr.c2)) ∧ w'.cell? ⟨bq, oq + i * 3, none⟩ = some (.bool tq_.s) ∧ w'.cell? ⟨bq, oq + i * 3 + 1, none⟩ = some (.slice tq_.a1 tq_.n1 tq_.c1) ∧ w'.cell? ⟨bq, oq + i * 3 + 2, none⟩ = some (.slice tq_.a2 tq_.n2 tq_.c2)) 9 (by kernel_rfl) ?_
            have bd0 : Below w9.heap.size w9 w9.drew := (Below.refl _ _).drew
            have hC0 : (fun w' : World => (w'.cell? ⟨g16, 0, none⟩ = some (.bool to_.s) ∧ w'.cell? ⟨g16, 1, none⟩ = some (.slice to_.a1 to_.n1 to_.c1) ∧ w'.cell? ⟨g16, 2, none⟩ = some (.slice to_.a2 to_.n2 to_.c2)) ∧ (w'.cell? ⟨g20, 0, none⟩ = some (.bool tg.s) ∧ w'.cell? ⟨g20, 1, none⟩ = some (.slice tg.a1 tg.n1 tg.c1) ∧ w'.cell? ⟨g20, 2, none⟩ = some (.slice tg.a2 tg.n2 tg.c2)) ∧ (w'.cell? ⟨g17, 0, none⟩ = some (.bool tr.s) ∧ w'.cell? ⟨g17, 1, none⟩ = some (.slice tr.a1 tr.n1 tr.c1) ∧ w'.cell? ⟨g17, 2, none⟩ = some (.slice tr.a2 tr.n2 tr.c2)) ∧ w'.cell? ⟨bq, oq + i * 3, none⟩ = some (.bool tq_.s) ∧ w'.cell? ⟨bq, oq + i * 3 + 1, none⟩ = some (.slice tq_.a1 tq_.n1 tq_.c1) ∧ w'.cell? ⟨bq, oq + i * 3 + 2, none⟩ = some (.slice tq_.a2 tq_.n2 tq_.c2)) w9.drew := unhide HC28 _ bd0
            refine wpTill_take (i := 0) (v := ?_) rfl (by kernel_rfl) (by kernel_rfl) (by kernel_rfl) (by kernel_rfl) (by kernel_rfl) (by kernel_rfl) (fun _ _ _ h => h) (Or.inl ⟨by rfl, ?_⟩) hC0 ?_
            rotate_left
            · intro w hSw; (try dsimp only at hSw); obtain ⟨⟨z0, z1, z2⟩, ⟨z3, z4, z5⟩, ⟨z6, z7, z8⟩, z9, z10, z11⟩ := hSw; go_simp; (try with_reducible rfl)
            (try simp only [List.getElem_toArray, List.getElem_cons_succ, List.getElem_cons_zero])
            (try simp only [Act.put, List.setIfInBounds_toArray, List.set_cons_zero, List.set_cons_succ])
            refine wpTill_take (i := 1) (v := ?_) rfl (by kernel_rfl) (by kernel_rfl) (by kernel_rfl) (by kernel_rfl) (by kernel_rfl) (by kernel_rfl) (fun _ _ _ h => h) (Or.inl ⟨by rfl, ?_⟩) hC0 ?_
            rotate_left
            · intro w hSw; (try dsimp only at hSw); obtain ⟨⟨z0, z1, z2⟩, ⟨z3, z4, z5⟩, ⟨z6, z7, z8⟩, z9, z10, z11⟩ := hSw; go_simp; (try with_reducible rfl)
            (try simp only [List.getElem_toArray, List.getElem_cons_succ, List.getElem_cons_zero])
            (try simp only [Act.put, List.setIfInBounds_toArray, List.set_cons_zero, List.set_cons_succ])
            refine wpTill_deep (i := 3) (v := ?_) [8, 9] rfl (by kernel_rfl) (by kernel_rfl) (by kernel_rfl) (by kernel_rfl) (by kernel_rfl) (by kernel_rfl) (by kernel_rfl) (fun _ _ _ h => h) (Or.inl ⟨by rfl, ?_⟩) hC0 ?_
            rotate_left
            · intro w hSw; (try dsimp only at hSw); obtain ⟨⟨z0, z1, z2⟩, ⟨z3, z4, z5⟩, ⟨z6, z7, z8⟩, z9, z10, z11⟩ := hSw; go_simp; (try with_reducible rfl)
            (try simp only [List.getElem_toArray, List.getElem_cons_succ, List.getElem_cons_zero])
            (try simp only [Act.put, List.setIfInBounds_toArray, List.set_cons_zero, List.set_cons_succ])
            refine wpTill_pure (i := 4) (v := ?_) rfl (by kernel_rfl) (by kernel_rfl) (by kernel_rfl) (by kernel_rfl) (fun _ _ _ h => h) (Or.inl ⟨by rfl, ?_⟩) (fun _ => hC0) ?_
            rotate_left
            · intro w hSw; clear hSw; go_simp; (try with_reducible rfl)
            (try simp only [List.getElem_toArray, List.getElem_cons_succ, List.getElem_cons_zero])
            (try simp only [Act.put, List.setIfInBounds_toArray, List.set_cons_zero, List.set_cons_succ])
            refine wpTill_pure (i := 5) (v := ?_) rfl (by kernel_rfl) (by kernel_rfl) (by kernel_rfl) (by kernel_rfl) (fun _ _ _ h => h) (Or.inl ⟨by rfl, ?_⟩) (fun _ => hC0) ?_
            rotate_left
            · intro w hSw; clear hSw; go_simp; (try with_reducible rfl)
            (try simp only [List.getElem_toArray, List.getElem_cons_succ, List.getElem_cons_zero])
            (try simp only [Act.put, List.setIfInBounds_toArray, List.set_cons_zero, List.set_cons_succ])
            refine wpTill_pure (i := 6) (v := ?_) rfl (by kernel_rfl) (by kernel_rfl) (by kernel_rfl) (by kernel_rfl) (fun _ _ _ h => h) (Or.inl ⟨by rfl, ?_⟩) (fun _ => hC0) ?_
            rotate_left
            · intro w hSw; clear hSw; go_simp; (try with_reducible rfl)
            (try simp only [List.getElem_toArray, List.getElem_cons_succ, List.getElem_cons_zero])
            (try simp only [Act.put, List.setIfInBounds_toArray, List.set_cons_zero, List.set_cons_succ])
            refine wpTill_deep (i := 7) (v := ?_) [8, 9] rfl (by kernel_rfl) (by kernel_rfl) (by kernel_rfl) (by kernel_rfl) (by kernel_rfl) (by kernel_rfl) (by kernel_rfl) (fun _ _ _ h => h) (Or.inl ⟨by rfl, ?_⟩) hC0 ?_
            rotate_left
            · intro w hSw; (try dsimp only at hSw); obtain ⟨⟨z0, z1, z2⟩, ⟨z3, z4, z5⟩, ⟨z6, z7, z8⟩, z9, z10, z11⟩ := hSw; go_simp; (try with_reducible rfl)
            (try simp only [List.getElem_toArray, List.getElem_cons_succ, List.getElem_cons_zero])
            (try simp only [Act.put, List.setIfInBounds_toArray, List.set_cons_zero, List.set_cons_succ])
            refine wpTill_one (k := 2) (by kernel_rfl) rfl (fun K hK => ?_)
            (try simp only [List.getElem_toArray, List.getElem_cons_succ, List.getElem_cons_zero])
            go_simp
            refine (mulR_any to_.val tg.val _ _ _ ((unhide HX16).2.below bd0) ((unhide HX20).2.below bd0) 50 (unhide HRO) (unhide HRG) (unhide HJ)).mono ?_
            rintro e xw_1 ⟨xv_1, rfl, hv_1, hb_1⟩
            have cc_1 := below_step bd0 hb_1
            have hC_1 : (fun w' : World => (w'.cell? ⟨g16, 0, none⟩ = some (.bool to_.s) ∧ w'.cell? ⟨g16, 1, none⟩ = some (.slice to_.a1 to_.n1 to_.c1) ∧ w'.cell? ⟨g16, 2, none⟩ = some (.slice to_.a2 to_.n2 to_.c2)) ∧ (w'.cell? ⟨g20, 0, none⟩ = some (.bool tg.s) ∧ w'.cell? ⟨g20, 1, none⟩ = some (.slice tg.a1 tg.n1 tg.c1) ∧ w'.cell? ⟨g20, 2, none⟩ = some (.slice tg.a2 tg.n2 tg.c2)) ∧ (w'.cell? ⟨g17, 0, none⟩ = some (.bool tr.s) ∧ w'.cell? ⟨g17, 1, none⟩ = some (.slice tr.a1 tr.n1 tr.c1) ∧ w'.cell? ⟨g17, 2, none⟩ = some (.slice tr.a2 tr.n2 tr.c2)) ∧ w'.cell? ⟨bq, oq + i * 3, none⟩ = some (.bool tq_.s) ∧ w'.cell? ⟨bq, oq + i * 3 + 1, none⟩ = some (.slice tq_.a1 tq_.n1 tq_.c1) ∧ w'.cell? ⟨bq, oq + i * 3 + 2, none⟩ = some (.slice tq_.a2 tq_.n2 tq_.c2)) xw_1 := unhide HC28 _ cc_1
            refine hK.out _ _ (fun _ => hC_1) ?_
            clear hK K
            (try simp only [Act.put, List.setIfInBounds_toArray, List.set_cons_zero, List.set_cons_succ])
            refine wpTill_one (k := 8) (by kernel_rfl) rfl (fun K hK => ?_)
            (try simp only [List.getElem_toArray, List.getElem_cons_succ, List.getElem_cons_zero])
            go_simp
            refine (mulR_any tr.val tq_.val _ _ _ ((unhide HX17).2.below cc_1) ((unhide HRQ0).below cc_1) 50 (unhide HRR) (unhide HRQ) (unhide HJ)).mono ?_
            rintro e xw_2 ⟨xv_2, rfl, hv_2, hb_2⟩
            have cc_2 := below_step cc_1 hb_2
            have hC_2 : (fun w' : World => (w'.cell? ⟨g16, 0, none⟩ = some (.bool to_.s) ∧ w'.cell? ⟨g16, 1, none⟩ = some (.slice to_.a1 to_.n1 to_.c1) ∧ w'.cell? ⟨g16, 2, none⟩ = some (.slice to_.a2 to_.n2 to_.c2)) ∧ (w'.cell? ⟨g20, 0, none⟩ = some (.bool tg.s) ∧ w'.cell? ⟨g20, 1, none⟩ = some (.slice tg.a1 tg.n1 tg.c1) ∧ w'.cell? ⟨g20, 2, none⟩ = some (.slice tg.a2 tg.n2 tg.c2)) ∧ (w'.cell? ⟨g17, 0, none⟩ = some (.bool tr.s) ∧ w'.cell? ⟨g17, 1, none⟩ = some (.slice tr.a1 tr.n1 tr.c1) ∧ w'.cell? ⟨g17, 2, none⟩ = some (.slice tr.a2 tr.n2 tr.c2)) ∧ w'.cell? ⟨bq, oq + i * 3, none⟩ = some (.bool tq_.s) ∧ w'.cell? ⟨bq, oq + i * 3 + 1, none⟩ = some (.slice tq_.a1 tq_.n1 tq_.c1) ∧ w'.cell? ⟨bq, oq + i * 3 + 2, none⟩ = some (.slice tq_.a2 tq_.n2 tq_.c2)) xw_2 := unhide HC28 _ cc_2
            refine hK.out _ _ (fun _ => hC_2) ?_
            clear hK K
            (try simp only [Act.put, List.setIfInBounds_toArray, List.set_cons_zero, List.set_cons_succ])
            obtain ⟨t1, rfl, r1'⟩ := tri_of hv_1
            obtain ⟨t2, rfl, r2'⟩ := tri_of hv_2
            simp only [Tri.val]
            have X16 := (unhide HX16).keep cc_2
            have X17 := (unhide HX17).keep cc_2
            have X20 := (unhide HX20).keep cc_2
            have ⟨l0, l1, l2⟩ := X16.free
            have ⟨y0, y1, y2⟩ := X16.cells _ (Below.refl _ _)
            have Y16 := X16.set (r1'.below hb_2)
            have Y17 := X17.other X16 (Ne.symm (unhide HN67)) (.bool t1.s) (.slice t1.a1 t1.n1 t1.c1) (.slice t1.a2 t1.n2 t1.c2)
            have Y20 := X20.other X16 (Ne.symm (unhide HN60)) (.bool t1.s) (.slice t1.a1 t1.n1 t1.c1) (.slice t1.a2 t1.n2 t1.c2)
            have r2a := r2'.boxSet X16 (.bool t1.s) (.slice t1.a1 t1.n1 t1.c1) (.slice t1.a2 t1.n2 t1.c2)
            have B9 := (((below_step (unhide HBR) cc_2).setCell (p := ⟨g16, 0, none⟩) (unhide HG16) (.bool t1.s)).setCell (p := ⟨g16, 1, none⟩) (unhide HG16) (.slice t1.a1 t1.n1 t1.c1)).setCell (p := ⟨g16, 2, none⟩) (unhide HG16) (.slice t1.a2 t1.n2 t1.c2)
            obtain ⟨W9, hW9⟩ : ∃ W, ((xw_2.setCell ⟨g16, 0, none⟩ (.bool t1.s)).setCell ⟨g16, 1, none⟩ (.slice t1.a1 t1.n1 t1.c1)).setCell ⟨g16, 2, none⟩ (.slice t1.a2 t1.n2 t1.c2) = W := ⟨_, rfl⟩
            rw [hW9] at Y16 Y17 Y20 B9 r2a
            refine wpTill_one (k := 9) (by kernel_rfl) rfl (fun K hK => ?_)
            (try simp only [List.getElem_toArray, List.getElem_cons_succ, List.getElem_cons_zero])
            go_simp
            refine hK.out _ _ (fun h => absurd (h.symm.trans (by kernel_rfl)) Bool.false_ne_true) ?_
            clear hK K
            (try simp only [Act.put, List.setIfInBounds_toArray, List.set_cons_zero, List.set_cons_succ])
            clear l0 l1 l2 y0 y1 y2 X16 X17 X20 hW9
            have ⟨l0, l1, l2⟩ := Y17.free
            have ⟨y0, y1, y2⟩ := Y17.cells _ (Below.refl _ _)
            have Z17 := Y17.set r2a
            have Z16 := Y16.other Y17 (unhide HN67) (.bool t2.s) (.slice t2.a1 t2.n1 t2.c1) (.slice t2.a2 t2.n2 t2.c2)
            have Z20 := Y20.other Y17 (Ne.symm (unhide HN70)) (.bool t2.s) (.slice t2.a1 t2.n1 t2.c1) (.slice t2.a2 t2.n2 t2.c2)
            have B10 := ((B9.setCell (p := ⟨g17, 0, none⟩) (unhide HG17) (.bool t2.s)).setCell (p := ⟨g17, 1, none⟩) (unhide HG17) (.slice t2.a1 t2.n1 t2.c1)).setCell (p := ⟨g17, 2, none⟩) (unhide HG17) (.slice t2.a2 t2.n2 t2.c2)
            obtain ⟨WA, hWA⟩ : ∃ W, ((W9.setCell ⟨g17, 0, none⟩ (.bool t2.s)).setCell ⟨g17, 1, none⟩ (.slice t2.a1 t2.n1 t2.c1)).setCell ⟨g17, 2, none⟩ (.slice t2.a2 t2.n2 t2.c2) = W := ⟨_, rfl⟩
            rw [hWA] at Z16 Z17 Z20 B10
            have HZ16 := hide Z16
            have HZ17 := hide Z17
            have HZ20 := hide Z20
            have HB10 := hide B10
            clear Y16 Y17 Y20 B9 r2a Z16 Z17 Z20 B10 hv_1 hv_2 r1' r2'
            refine wpTill_one (k := 10) (by kernel_rfl) rfl (fun K hK => ?_)
            (try simp only [List.getElem_toArray, List.getElem_cons_succ, List.getElem_cons_zero])
            go_simp
            refine hK.out _ _ (fun h => absurd (h.symm.trans (by kernel_rfl)) Bool.false_ne_true) ?_
            clear hK K
            (try simp only [Act.put, List.setIfInBounds_toArray, List.set_cons_zero, List.set_cons_succ])
            refine wpTill_done (by kernel_rfl) ?_ _
            rw [unhide EP] at HZ16
            rw [unhide EQ] at HZ17
            clear hC0 hC_1 hC_2 cc_1 cc_2 bd0 hb_1 hb_2 y0 y1 y2 l0 l1 l2 hWA HC28 HRQ0
            go_wp2_with fail
            exact ⟨⟨k + 1, _, _, by go_num, by rw [unhide HCI]; omega, unhide HZ16, unhide HZ17, unhide HZ20, unhide HB10⟩, by simp [intOf, unhide HCI]; omega⟩
          · obtain rfl : ci = k := by omega
            have g2 : ¬ (ci : Int) < (ci : Int) := by omega
            have H16 : Hid (BoxIs wr g16 to_ (Stp.wpr (shf cc sa) cc (i + 1))) := by
              show BoxIs _ _ _ (Stp.wpr (shf cc sa) cc i * Stp.pw ((shf cc sa) i) (cc i))
              rw [unhide HCI]; exact unhide HX16
            have H17 : Hid (BoxIs wr g17 tr (Stp.wpr (shf bb sb) cc (i + 1))) := by
              show BoxIs _ _ _ (Stp.wpr (shf bb sb) cc i * Stp.pw ((shf bb sb) i) (cc i))
              rw [unhide HCI]; exact unhide HX17
            go_wp2_with fail
            refine (pick_val (f0 i) 6 (by decide) (by decide) wr).mono ?_
            rintro e w9 ⟨rfl, rfl⟩
            go_wp2_with fail
            exact ⟨⟨i + 1, _, _, by go_num, hlt, unhide H16, unhide H17, unhide HBR⟩, by simp [intOf]; omega⟩

end Go.Proofs.YtgpolilpgkhlkaaDoor
