/- The newsvendor, by the program. -/
import Derived.Test.YtohkmkoklhnnlaaGreatDoorO3
namespace Go.Proofs.YtohkmkoklhnnlaaGreatDoor
open Go.RowKit Go.Sort Go.Shelf

def ncode (qs : List Rat) (a b : Rat) : Int := if chk qs ≠ 0 then chk qs else if a < 0 ∨ b < 0 then 1 else 0
def NewsPost (qs : List Rat) (a b : Rat) (w : World) (e : Ending) (w' : World) : Prop :=
  Below w.heap.size w w' ∧ ((ncode qs a b ≠ 0 ∧ e = .returned (.tuple #[.int .i64 0, zAgg, .iface 50 (.int .i64 (ncode qs a b))])) ∨
    (ncode qs a b = 0 ∧ ∃ (n : Nat) (v : Value), e = .returned (.tuple #[.int .i64 (n : Int), v, .nilIface]) ∧ NewsIs qs a b n ∧ RatIs w' v (lossV qs a b n)))
theorem num_neg {q : Rat} (h : q < 0) : q.num.sign = -1 := by
  have h1 : q.num < 0 := by
    rcases Int.lt_or_le q.num 0 with c | c
    · exact c
    · have := Rat.num_nonneg.1 c; grind
  exact Int.sign_eq_neg_one_of_neg h1
theorem num_nn {q : Rat} (h : ¬ q < 0) : ¬ q.num.sign < 0 := by
  have h1 : 0 ≤ q.num := Rat.num_nonneg.2 (by grind)
  rcases Int.lt_or_eq_of_le h1 with c | c
  · rw [Int.sign_eq_one_of_pos c]; decide
  · rw [← c]; decide
theorem NewsIs.le {qs : List Rat} {a b : Rat} {n : Nat} (h : NewsIs qs a b n) (hc : chk qs = 0) : n ≤ 100 := by
  obtain ⟨_, h2, _⟩ := chk_zero hc
  rcases h with ⟨_, h⟩ | ⟨_, h, _⟩ <;> omega
set_option maxHeartbeats 16000000 in
set_option maxRecDepth 100000 in
set_option linter.unusedSimpArgs false in
theorem news_any (v vl vf : Value) (qs : List Rat) (a b : Rat) (w : World) (h : LawIs w v qs) (hl : RatIs w vl a) (hf : RatIs w vf b) (hq : ∀ j, j < qs.length → RS qs[j]! 1) (ha : RS a 1) (hb : RS b 1) (hlen : qs.length ≤ 1000) :
    Calls Tryz.prog 20 #[v, vl, vf] w (NewsPost qs a b w) := by
  have KKe : KK = 1099511627776 := rfl
  obtain ⟨tl, rfl, hl'⟩ := tri_of hl
  obtain ⟨tf, rfl, hf'⟩ := tri_of hf
  have b1 := alloc_below w (.cells #[.bool tl.s, .slice tl.a1 tl.n1 tl.c1, .slice tl.a2 tl.n2 tl.c2] 40)
  have X0 := BoxIs.new hl'
  obtain ⟨W1, hW1⟩ : ∃ W, w.alloc (.cells #[.bool tl.s, .slice tl.a1 tl.n1 tl.c1, .slice tl.a2 tl.n2 tl.c2] 40) = W := ⟨_, rfl⟩
  obtain ⟨g1, s1⟩ : ∃ g, W1.heap.size = g := ⟨_, rfl⟩
  have z1 : w.heap.size + 1 = g1 := by rw [← s1, ← hW1, alloc_size]
  rw [hW1] at b1 X0
  have b2 := alloc_below W1 (.cells #[.bool tf.s, .slice tf.a1 tf.n1 tf.c1, .slice tf.a2 tf.n2 tf.c2] 40)
  have X1 := BoxIs.new (hf'.below b1)
  obtain ⟨W2, hW2⟩ : ∃ W, W1.alloc (.cells #[.bool tf.s, .slice tf.a1 tf.n1 tf.c1, .slice tf.a2 tf.n2 tf.c2] 40) = W := ⟨_, rfl⟩
  rw [hW2] at b2 X1
  rw [s1] at X1
  obtain ⟨g2, s2⟩ : ∃ g, W2.heap.size = g := ⟨_, rfl⟩
  have z2 : g1 + 1 = g2 := by rw [← s2, ← hW2, alloc_size, s1]
  have b3 := alloc_below W2 (.cells #[.bool false, .slice none 0 0, .slice none 0 0] 40)
  have X2 := BoxIs.new (w := W2) (t := zTri) (q := 0) (rat_zero _)
  obtain ⟨W3, hW3⟩ : ∃ W, W2.alloc (.cells #[.bool false, .slice none 0 0, .slice none 0 0] 40) = W := ⟨_, rfl⟩
  have X2' : BoxIs W3 g2 zTri 0 := by rw [← hW3, ← s2]; exact X2
  rw [hW3] at b3
  have bb : Below w.heap.size w W3 := below_step (below_step b1 b2) b3
  have Y0 := (X0.keep b2).keep b3
  have Y1 := X1.keep b3
  have HF : Hid (∀ W, Below W3.heap.size W3 W → BoxIs W w.heap.size tl a ∧ BoxIs W g1 tf b ∧ LawIs W v qs) := fun W hW => ⟨Y0.keep hW, Y1.keep hW, h.below (below_step bb hW)⟩
  have HX : Hid (∀ W, Below W3.heap.size W3 W → BoxIs W g2 zTri 0) := fun W hW => X2'.keep hW
  have HB : Hid (∀ W, Below W3.heap.size W3 W → Below w.heap.size w W) := fun W hW => below_step bb hW
  have HG2 : Hid (w.heap.size ≤ g2) := by show _ ≤ _; omega
  have C0 := hide (check_any v qs 1 W3 (unhide HF _ (Below.refl _ _)).2.2 hq (by omega))
  have HSL : Hid (∀ W, Below W3.heap.size W3 W → Calls Tryz.prog 13 #[.agg #[.bool tl.s, .slice tl.a1 tl.n1 tl.c1, .slice tl.a2 tl.n2 tl.c2]] W fun e w' => e = .returned (.int .i64 a.num.sign) ∧ Below W.heap.size W w') := fun W hW => sign_any _ a W (unhide HF _ hW).1.2
  have HSF : Hid (∀ W, Below W3.heap.size W3 W → Calls Tryz.prog 13 #[.agg #[.bool tf.s, .slice tf.a1 tf.n1 tf.c1, .slice tf.a2 tf.n2 tf.c2]] W fun e w' => e = .returned (.int .i64 b.num.sign) ∧ Below W.heap.size W w') := fun W hW => sign_any _ b W (unhide HF _ hW).2.1.2
  have HQ := hide hq
  have HRA := hide ha
  have HRB := hide hb
  simp only [Tri.val]
  clear h hl hf hl' hf' hq ha hb b1 b2 b3 bb X0 X1 X2 X2' Y0 Y1 z1 z2 KKe
  by_cases hc : chk qs = 0
  case neg =>
    have en : ncode qs a b = chk qs := by unfold ncode; rw [if_pos hc]
    obtain ⟨k, hk⟩ : ∃ k, chk qs = k := ⟨_, rfl⟩
    rw [hk] at en hc C0
    rw [errV_not hc] at C0
    have HEN := hide en
    have HHC := hide hc
    have q5 : (k == 0) = false := by simpa using hc
    clear hk en hc
    go_enter Tryz.func20, Tryz.ntmps20
    go_wp2_with fail
    clear hW1 hW2 hW3 s1 s2
    refine (unhide C0).mono ?_
    rintro e wz ⟨rfl, hbz⟩
    have Y := (unhide HX _ hbz)
    have ⟨l0, l1, l2⟩ := Y.free
    have ⟨y0, y1, y2⟩ := Y.cells _ (Below.refl _ _)
    have FIN := Y.set (t' := zTri) (q' := 0) (rat_zero _)
    have FB := (((unhide HB _ hbz).setCell (p := ⟨g2, 0, none⟩) (unhide HG2) (.bool false)).setCell (p := ⟨g2, 1, none⟩) (unhide HG2) (.slice none 0 0)).setCell (p := ⟨g2, 2, none⟩) (unhide HG2) (.slice none 0 0)
    obtain ⟨Wf, hWf⟩ : ∃ W, ((wz.setCell ⟨g2, 0, none⟩ (.bool false)).setCell ⟨g2, 1, none⟩ (.slice none 0 0)).setCell ⟨g2, 2, none⟩ (.slice none 0 0) = W := ⟨_, rfl⟩
    have FIN' : BoxIs Wf g2 zTri 0 := by rw [← hWf]; exact FIN
    rw [hWf] at FB
    have HFB := hide FB
    have ⟨x0, x1, x2⟩ := FIN'.cells _ (Below.refl _ _)
    clear Y FIN FIN' FB
    go_wp2
    exact bodyPost_ret (v := .tuple #[.int .i64 0, zAgg, .iface 50 (.int .i64 k)]) (by simp [results, Tryz.results20, go_sem, x0, x1, x2, zTri, zAgg]) rfl ⟨unhide HFB, Or.inl ⟨by rw [unhide HEN]; exact unhide HHC, by rw [unhide HEN]⟩⟩
  rw [hc, errV_zero] at C0
  by_cases na : a < 0
  · have en : ncode qs a b = 1 := by unfold ncode; rw [if_neg (by rw [hc]; decide), if_pos (Or.inl na)]
    have HEN := hide en
    have es := num_neg na
    rw [es] at HSL
    have e1 : (-1 : Int) < 0 := by decide
    clear en na es hc
    go_enter Tryz.func20, Tryz.ntmps20
    go_wp2_with fail
    clear hW1 hW2 hW3 s1 s2
    refine (unhide C0).mono ?_
    rintro e w5 ⟨rfl, hb5⟩
    have C1 := hide (unhide HSL _ hb5)
    obtain ⟨c0, c1, c2⟩ := (unhide HF _ hb5).1.cells _ (Below.refl _ _)
    clear C0
    go_wp2_with fail
    refine (unhide C1).mono ?_
    rintro e wz ⟨rfl, hbz'⟩
    have hbz := below_step hb5 hbz'
    clear C1 hb5 hbz' c0 c1 c2
    have Y := (unhide HX _ hbz)
    have ⟨l0, l1, l2⟩ := Y.free
    have ⟨y0, y1, y2⟩ := Y.cells _ (Below.refl _ _)
    have FIN := Y.set (t' := zTri) (q' := 0) (rat_zero _)
    have FB := (((unhide HB _ hbz).setCell (p := ⟨g2, 0, none⟩) (unhide HG2) (.bool false)).setCell (p := ⟨g2, 1, none⟩) (unhide HG2) (.slice none 0 0)).setCell (p := ⟨g2, 2, none⟩) (unhide HG2) (.slice none 0 0)
    obtain ⟨Wf, hWf⟩ : ∃ W, ((wz.setCell ⟨g2, 0, none⟩ (.bool false)).setCell ⟨g2, 1, none⟩ (.slice none 0 0)).setCell ⟨g2, 2, none⟩ (.slice none 0 0) = W := ⟨_, rfl⟩
    have FIN' : BoxIs Wf g2 zTri 0 := by rw [← hWf]; exact FIN
    rw [hWf] at FB
    have HFB := hide FB
    have ⟨x0, x1, x2⟩ := FIN'.cells _ (Below.refl _ _)
    clear Y FIN FIN' FB
    go_wp2
    exact bodyPost_ret (v := .tuple #[.int .i64 0, zAgg, .iface 50 (.int .i64 1)]) (by simp [results, Tryz.results20, go_sem, x0, x1, x2, zTri, zAgg]) rfl ⟨unhide HFB, Or.inl ⟨by rw [unhide HEN]; decide, by rw [unhide HEN]⟩⟩
  have sa := num_nn na
  by_cases nb : b < 0
  · have en : ncode qs a b = 1 := by unfold ncode; rw [if_neg (by rw [hc]; decide), if_pos (Or.inr nb)]
    have HEN := hide en
    have es := num_neg nb
    rw [es] at HSF
    have e1 : (-1 : Int) < 0 := by decide
    obtain ⟨sg, hsg⟩ : ∃ s, a.num.sign = s := ⟨_, rfl⟩
    rw [hsg] at HSL sa
    clear en na nb es hc hsg
    go_enter Tryz.func20, Tryz.ntmps20
    go_wp2_with fail
    clear hW1 hW2 hW3 s1 s2
    refine (unhide C0).mono ?_
    rintro e w5 ⟨rfl, hb5⟩
    have C1 := hide (unhide HSL _ hb5)
    obtain ⟨c0, c1, c2⟩ := (unhide HF _ hb5).1.cells _ (Below.refl _ _)
    clear C0
    go_wp2_with fail
    refine (unhide C1).mono ?_
    rintro e w6 ⟨rfl, hb6'⟩
    have hb6 := below_step hb5 hb6'
    have C2 := hide (unhide HSF _ hb6)
    clear C1 hb5 hb6' c0 c1 c2
    obtain ⟨c0, c1, c2⟩ := (unhide HF _ hb6).2.1.cells _ (Below.refl _ _)
    go_wp2_with fail
    refine (unhide C2).mono ?_
    rintro e wz ⟨rfl, hbz'⟩
    have hbz := below_step hb6 hbz'
    clear C2 hb6 hbz' c0 c1 c2
    have Y := (unhide HX _ hbz)
    have ⟨l0, l1, l2⟩ := Y.free
    have ⟨y0, y1, y2⟩ := Y.cells _ (Below.refl _ _)
    have FIN := Y.set (t' := zTri) (q' := 0) (rat_zero _)
    have FB := (((unhide HB _ hbz).setCell (p := ⟨g2, 0, none⟩) (unhide HG2) (.bool false)).setCell (p := ⟨g2, 1, none⟩) (unhide HG2) (.slice none 0 0)).setCell (p := ⟨g2, 2, none⟩) (unhide HG2) (.slice none 0 0)
    obtain ⟨Wf, hWf⟩ : ∃ W, ((wz.setCell ⟨g2, 0, none⟩ (.bool false)).setCell ⟨g2, 1, none⟩ (.slice none 0 0)).setCell ⟨g2, 2, none⟩ (.slice none 0 0) = W := ⟨_, rfl⟩
    have FIN' : BoxIs Wf g2 zTri 0 := by rw [← hWf]; exact FIN
    rw [hWf] at FB
    have HFB := hide FB
    have ⟨x0, x1, x2⟩ := FIN'.cells _ (Below.refl _ _)
    clear Y FIN FIN' FB
    go_wp2
    exact bodyPost_ret (v := .tuple #[.int .i64 0, zAgg, .iface 50 (.int .i64 1)]) (by simp [results, Tryz.results20, go_sem, x0, x1, x2, zTri, zAgg]) rfl ⟨unhide HFB, Or.inl ⟨by rw [unhide HEN]; decide, by rw [unhide HEN]⟩⟩
  have sb := num_nn nb
  have en : ncode qs a b = 0 := by unfold ncode; rw [if_neg (by rw [hc]; decide), if_neg (by rintro (h | h); exact na h; exact nb h)]
  have HEN := hide en
  have pa : 0 ≤ a := by grind
  have pb : 0 ≤ b := by grind
  have HEO : Hid (∀ W, Below W3.heap.size W3 W → Calls Tryz.prog 40 #[v, .agg #[.bool tl.s, .slice tl.a1 tl.n1 tl.c1, .slice tl.a2 tl.n2 tl.c2], .agg #[.bool tf.s, .slice tf.a1 tf.n1 tf.c1, .slice tf.a2 tf.n2 tf.c2]] W fun e w' => ∃ n : Nat, e = .returned (.tuple #[.int .i64 (n : Int), .nilIface]) ∧ NewsIs qs a b n ∧ Below W.heap.size W w') := fun W hW => enough_any v _ _ qs a b W (unhide HF _ hW).2.2 (unhide HF _ hW).1.2 (unhide HF _ hW).2.1.2 (unhide HQ) (unhide HRA) (unhide HRB) hc pa pb
  have HLO : Hid (∀ (n : Nat) W, NewsIs qs a b n → Below W3.heap.size W3 W → Calls Tryz.prog 41 #[v, .agg #[.bool tl.s, .slice tl.a1 tl.n1 tl.c1, .slice tl.a2 tl.n2 tl.c2], .agg #[.bool tf.s, .slice tf.a1 tf.n1 tf.c1, .slice tf.a2 tf.n2 tf.c2], .int .i64 (n : Int)] W fun e w' => ∃ v, e = .returned (.tuple #[v, .nilIface]) ∧ RatIs w' v (lossV qs a b n) ∧ Below W.heap.size W w') := fun n W hn hW => loss_any v _ _ qs a b n W (unhide HF _ hW).2.2 (unhide HF _ hW).1.2 (unhide HF _ hW).2.1.2 (unhide HQ) (unhide HRA) (unhide HRB) hc (hn.le hc)
  obtain ⟨sg, hsg⟩ : ∃ s, a.num.sign = s := ⟨_, rfl⟩
  obtain ⟨sh, hsh⟩ : ∃ s, b.num.sign = s := ⟨_, rfl⟩
  rw [hsg] at HSL sa
  rw [hsh] at HSF sb
  clear en na nb hc hsg hsh pa pb
  go_enter Tryz.func20, Tryz.ntmps20
  go_wp2_with fail
  clear hW1 hW2 hW3 s1 s2
  refine (unhide C0).mono ?_
  rintro e w5 ⟨rfl, hb5⟩
  have C1 := hide (unhide HSL _ hb5)
  obtain ⟨c0, c1, c2⟩ := (unhide HF _ hb5).1.cells _ (Below.refl _ _)
  clear C0
  go_wp2_with fail
  refine (unhide C1).mono ?_
  rintro e w6 ⟨rfl, hb6'⟩
  have hb6 := below_step hb5 hb6'
  have C2 := hide (unhide HSF _ hb6)
  clear C1 hb5 hb6' c0 c1 c2
  obtain ⟨c0, c1, c2⟩ := (unhide HF _ hb6).2.1.cells _ (Below.refl _ _)
  go_wp2_with fail
  refine (unhide C2).mono ?_
  rintro e w7 ⟨rfl, hb7'⟩
  have hb7 := below_step hb6 hb7'
  have C3 := hide (unhide HEO _ hb7)
  clear C2 hb6 hb7' c0 c1 c2
  obtain ⟨c0, c1, c2⟩ := (unhide HF _ hb7).1.cells _ (Below.refl _ _)
  obtain ⟨d0, d1, d2⟩ := (unhide HF _ hb7).2.1.cells _ (Below.refl _ _)
  go_wp2_with fail
  refine (unhide C3).mono ?_
  rintro e w8 ⟨n, rfl, hn, hb8'⟩
  have hb8 := below_step hb7 hb8'
  have C4 := hide (unhide HLO n _ hn hb8)
  have HNI := hide hn
  clear C3 hb7 hb8' c0 c1 c2 d0 d1 d2 hn
  obtain ⟨c0, c1, c2⟩ := (unhide HF _ hb8).1.cells _ (Below.refl _ _)
  obtain ⟨d0, d1, d2⟩ := (unhide HF _ hb8).2.1.cells _ (Below.refl _ _)
  go_wp2_with fail
  refine (unhide C4).mono ?_
  rintro e w9 ⟨v9, rfl, hv9, hb9'⟩
  have hb9 := below_step hb8 hb9'
  obtain ⟨tx, rfl, hr9⟩ := tri_of hv9
  simp only [Tri.val]
  have hbx := below_step hb9 (alloc_below w9 (.cells #[.bool tx.s, .slice tx.a1 tx.n1 tx.c1, .slice tx.a2 tx.n2 tx.c2] 40))
  have XX := BoxIs.new hr9
  obtain ⟨Wx8, hWx8⟩ : ∃ W, w9.alloc (.cells #[.bool tx.s, .slice tx.a1 tx.n1 tx.c1, .slice tx.a2 tx.n2 tx.c2] 40) = W := ⟨_, rfl⟩
  obtain ⟨gx, hgx⟩ : ∃ g, w9.heap.size = g := ⟨_, rfl⟩
  rw [hWx8] at hbx XX
  rw [hgx] at XX
  have HXR := hide XX.2
  have HX8 : Hid (∀ W, Below Wx8.heap.size Wx8 W → BoxIs W g2 zTri 0) := fun W hW => unhide HX W (below_step hbx hW)
  have HB8 : Hid (∀ W, Below Wx8.heap.size Wx8 W → Below w.heap.size w W) := fun W hW => unhide HB W (below_step hbx hW)
  have HCC : Hid (∀ W, Below Wx8.heap.size Wx8 W → (fun w' : World => (w'.cell? ⟨gx, 0, none⟩ = some (.bool tx.s) ∧ w'.cell? ⟨gx, 1, none⟩ = some (.slice tx.a1 tx.n1 tx.c1) ∧ w'.cell? ⟨gx, 2, none⟩ = some (.slice tx.a2 tx.n2 tx.c2))) W) := fun W hW => (XX.keep hW).cells _ (Below.refl _ _)
  clear C4 hb8 hb9 hb9' c0 c1 c2 d0 d1 d2 hv9 hr9 hbx XX
  go_wp2_with fail
  clear hWx8 hgx
  refine wp_region_till (fun w' : World => (w'.cell? ⟨gx, 0, none⟩ = some (.bool tx.s) ∧ w'.cell? ⟨gx, 1, none⟩ = some (.slice tx.a1 tx.n1 tx.c1) ∧ w'.cell? ⟨gx, 2, none⟩ = some (.slice tx.a2 tx.n2 tx.c2))) 4 (by kernel_rfl) ?_
  have bd0 : Below Wx8.heap.size Wx8 Wx8.drew := (Below.refl _ _).drew
  obtain ⟨WD, hWD⟩ : ∃ W, Wx8.drew = W := ⟨_, rfl⟩
  rw [hWD] at bd0 ⊢
  have hC0 : (fun w' : World => (w'.cell? ⟨gx, 0, none⟩ = some (.bool tx.s) ∧ w'.cell? ⟨gx, 1, none⟩ = some (.slice tx.a1 tx.n1 tx.c1) ∧ w'.cell? ⟨gx, 2, none⟩ = some (.slice tx.a2 tx.n2 tx.c2))) WD := unhide HCC _ bd0
  refine wpTill_pure (i := 0) (v := ?_) rfl (by kernel_rfl) (by kernel_rfl) (by kernel_rfl) (by kernel_rfl) (fun _ _ _ h => h) (Or.inl ⟨by rfl, ?_⟩) (fun _ => hC0) ?_
  rotate_left
  · intro w hSw; clear hSw; go_simp; (try with_reducible rfl)
  (try simp only [List.getElem_toArray, List.getElem_cons_succ, List.getElem_cons_zero])
  (try simp only [Act.put, List.setIfInBounds_toArray, List.set_cons_zero, List.set_cons_succ])
  refine wpTill_take (i := 1) (v := ?_) rfl (by kernel_rfl) (by kernel_rfl) (by kernel_rfl) (by kernel_rfl) (by kernel_rfl) (by kernel_rfl) (fun _ _ _ h => h) (Or.inl ⟨by rfl, ?_⟩) hC0 ?_
  rotate_left
  · intro w hSw; (try dsimp only at hSw); obtain ⟨z0, z1, z2⟩ := hSw; go_simp; (try with_reducible rfl)
  (try simp only [List.getElem_toArray, List.getElem_cons_succ, List.getElem_cons_zero])
  (try simp only [Act.put, List.setIfInBounds_toArray, List.set_cons_zero, List.set_cons_succ])
  refine wpTill_pure (i := 2) (v := ?_) rfl (by kernel_rfl) (by kernel_rfl) (by kernel_rfl) (by kernel_rfl) (fun _ _ _ h => h) (Or.inl ⟨by rfl, ?_⟩) (fun _ => hC0) ?_
  rotate_left
  · intro w hSw; clear hSw; go_simp; (try with_reducible rfl)
  (try simp only [List.getElem_toArray, List.getElem_cons_succ, List.getElem_cons_zero])
  (try simp only [Act.put, List.setIfInBounds_toArray, List.set_cons_zero, List.set_cons_succ])
  refine wpTill_one (k := 3) (by kernel_rfl) rfl (fun K hK => ?_)
  (try simp only [List.getElem_toArray, List.getElem_cons_succ, List.getElem_cons_zero])
  go_simp
  refine hK.out _ _ (fun _ => hC0) ?_
  clear hK K
  (try simp only [Act.put, List.setIfInBounds_toArray, List.set_cons_zero, List.set_cons_succ])
  have r8 := (unhide HXR).below bd0
  have Y := unhide HX8 _ bd0
  have ⟨l0, l1, l2⟩ := Y.free
  have ⟨y0, y1, y2⟩ := Y.cells _ (Below.refl _ _)
  have FIN := Y.set r8
  have FB := (((unhide HB8 _ bd0).setCell (p := ⟨g2, 0, none⟩) (unhide HG2) (.bool tx.s)).setCell (p := ⟨g2, 1, none⟩) (unhide HG2) (.slice tx.a1 tx.n1 tx.c1)).setCell (p := ⟨g2, 2, none⟩) (unhide HG2) (.slice tx.a2 tx.n2 tx.c2)
  obtain ⟨Wf, hWf⟩ : ∃ W, ((WD.setCell ⟨g2, 0, none⟩ (.bool tx.s)).setCell ⟨g2, 1, none⟩ (.slice tx.a1 tx.n1 tx.c1)).setCell ⟨g2, 2, none⟩ (.slice tx.a2 tx.n2 tx.c2) = W := ⟨_, rfl⟩
  rw [hWf] at FIN FB
  have HFIN := hide FIN
  have HFB := hide FB
  clear Y FIN FB
  clear r8
  refine wpTill_one (k := 4) (by kernel_rfl) rfl (fun K hK => ?_)
  (try simp only [List.getElem_toArray, List.getElem_cons_succ, List.getElem_cons_zero])
  go_simp
  refine hK.out _ _ (fun h => absurd (h.symm.trans (by kernel_rfl)) Bool.false_ne_true) ?_
  clear hK K
  (try simp only [Act.put, List.setIfInBounds_toArray, List.set_cons_zero, List.set_cons_succ])
  refine wpTill_one (k := 5) (by kernel_rfl) rfl (fun K hK => ?_)
  (try simp only [List.getElem_toArray, List.getElem_cons_succ, List.getElem_cons_zero])
  go_simp
  refine hK.out _ _ (fun h => absurd (h.symm.trans (by kernel_rfl)) Bool.false_ne_true) ?_
  clear hK K
  (try simp only [Act.put, List.setIfInBounds_toArray, List.set_cons_zero, List.set_cons_succ])
  refine wpTill_done (by kernel_rfl) ?_ _
  have ⟨x0, x1, x2⟩ := (unhide HFIN).cells _ (Below.refl _ _)
  clear l0 l1 l2 y0 y1 y2 hWf hC0 bd0
  go_wp2
  exact bodyPost_ret (v := .tuple #[.int .i64 (n : Int), .agg #[.bool tx.s, .slice tx.a1 tx.n1 tx.c1, .slice tx.a2 tx.n2 tx.c2], .nilIface]) (by simp [results, Tryz.results20, go_sem, x0, x1, x2]) rfl ⟨unhide HFB, Or.inr ⟨unhide HEN, n, _, rfl, unhide HNI, (unhide HFIN).2⟩⟩
end Go.Proofs.YtohkmkoklhnnlaaGreatDoor
