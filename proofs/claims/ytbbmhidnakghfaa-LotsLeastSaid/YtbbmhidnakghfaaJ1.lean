/- A stable sort of a row of numbers: its functions. -/
import Derived.Test.YtbbmhidnakghfaaL0
namespace Go.Proofs.Ytbbmhidnakghfaa
open Go.RowKit Go.Sort Stb

/-- What the comparison keeps and says. -/
structure CmpInv (g n : Nat) (cv : Nat → Nat → Int) (fk : Nat) (bd : Array Value) (Inv : World → Prop) : Prop where
  keep : ∀ W W', Inv W → Below W.heap.size W W' → Inv W'
  set : ∀ W j x lf, Inv W → OwnI W g n lf → Inv (W.setCell ⟨g, j, none⟩ (.int .i64 x))
  eg : ∀ args w, (callFunc fk args).run Try.prog w = .ok (.enter fk args) w
  cmp : ∀ (a b : Nat) W, a < n → b < n → Inv W → Calls Try.prog fk (#[.int .i64 (a : Int), .int .i64 (b : Int)] ++ bd) W fun e w' => e = .returned (.int .i64 (cv a b)) ∧ Below W.heap.size W w'
def ltc (cv : Nat → Nat → Int) (a b : Nat) : Bool := decide (cv a b < 0)
/-- What is left: the row by f, the rest as it was. -/
structure At (w0 : World) (g n : Nat) (Inv : World → Prop) (f : Nat → Nat) (w : World) : Prop where
  own : OwnI w g n (fun i => ((f i : Nat) : Int))
  bl : Below w0.heap.size w0 w
  inv : Inv w
theorem At.keep {w0 : World} {g n : Nat} {cv : Nat → Nat → Int} {fk : Nat} {bd : Array Value} {Inv : World → Prop} (CI : CmpInv g n cv fk bd Inv) {f : Nat → Nat} {w w' : World} (h : At w0 g n Inv f w) (hb : Below w.heap.size w w') : At w0 g n Inv f w' := ⟨h.own.keep hb, below_step h.bl hb, CI.keep _ _ h.inv hb⟩
theorem At.swap {w0 : World} {g n : Nat} {cv : Nat → Nat → Int} {fk : Nat} {bd : Array Value} {Inv : World → Prop} (CI : CmpInv g n cv fk bd Inv) (hge : w0.heap.size ≤ g) {f : Nat → Nat} {w : World} (h : At w0 g n Inv f w) {x y : Nat} (hxy : x ≠ y) :
    At w0 g n Inv (swp f x y) ((w.setCell ⟨g, x, none⟩ (.int .i64 (f y : Int))).setCell ⟨g, y, none⟩ (.int .i64 (f x : Int))) := by
  have o1 := h.own.set x (f y : Int)
  have i1 := CI.set _ x (f y : Int) _ h.inv h.own
  have b1 := h.bl.setCell (p := ⟨g, x, none⟩) hge (.int .i64 (f y : Int))
  have o2 := o1.set y (f x : Int)
  have i2 := CI.set _ y (f x : Int) _ i1 o1
  have b2 := b1.setCell (p := ⟨g, y, none⟩) hge (.int .i64 (f x : Int))
  rw [swp_ints f hxy] at o2
  exact ⟨o2, b2, i2⟩
def AtPost (w0 : World) (g n : Nat) (Inv : World → Prop) (f : Nat → Nat) (e : Ending) (w' : World) : Prop := e = .returned (.tuple #[]) ∧ At w0 g n Inv f w'
def SrPost (w0 : World) (g n : Nat) (Inv : World → Prop) (cv : Nat → Nat → Int) (a b : Nat) (f : Nat → Nat) (e : Ending) (w' : World) : Prop :=
  e = .returned (.tuple #[]) ∧ ∃ f' : Nat → Nat, At w0 g n Inv f' w' ∧ Re a b f f' ∧ Sr (ltc cv) f' a b

set_option maxHeartbeats 8000000 in
set_option maxRecDepth 100000 in
set_option linter.unusedSimpArgs false in
theorem swapRange_any (g n a b k : Nat) (f : Nat → Nat) (cv : Nat → Nat → Int) (fk : Nat) (bd : Array Value) (w0 w : World) (Inv : World → Prop) (CI : CmpInv g n cv fk bd Inv) (hn : n ≤ 100000) (hab : a + k ≤ b) (hbn : b + k ≤ n) (hge : w0.heap.size ≤ g) (hA : At w0 g n Inv f w) :
    Calls Try.prog 29 #[.slice (some ⟨g, 0, none⟩) n n, .int .i64 (a : Int), .int .i64 (b : Int), .int .i64 (k : Int), .func (.func fk) #[] bd] w (AtPost w0 g n Inv (srg f a b k)) := by
  have HCI := hide CI
  have HGE := hide hge
  have HA0 := hide hA
  have HAB := hide hab
  have HBN := hide hbn
  clear CI hge hA hab hbn
  go_enter Try.func29, Try.ntmps29
  go_wp2_with fail
  go_loopw [10] (fun vi wr => ∃ i : Nat, vi = .int .i64 (i : Int) ∧ i ≤ k ∧ At w0 g n Inv (srg f a b i) wr) (fun vi _ => k - (intOf vi).toNat)
  case atStart => exact ⟨0, rfl, Nat.zero_le _, by rw [srg_zero]; exact unhide HA0⟩
  case round =>
    obtain ⟨i, rfl, hi, hA⟩ := hrel
    have HAT := hide hA
    clear hA HA0
    by_cases hlt : i < k
    · have e1 : (i : Int) < (k : Int) := by omega
      have h1 := unhide HAB
      have h2 := unhide HBN
      obtain ⟨x, hx⟩ : ∃ x, a + i = x := ⟨_, rfl⟩
      obtain ⟨y, hy⟩ : ∃ y, b + i = y := ⟨_, rfl⟩
      have ex : IntKind.i64.wrap ((a : Int) + (i : Int)) = (x : Int) := by rw [IntKind.wrap_i64]; omega
      have ey : IntKind.i64.wrap ((b : Int) + (i : Int)) = (y : Int) := by rw [IntKind.wrap_i64]; omega
      have e4 : IntKind.i64.wrap ((i : Int) + 1) = (i : Int) + 1 := by rw [IntKind.wrap_i64]; omega
      have e5 : (0 : Int) ≤ (x : Int) := by omega
      have e6 : (x : Int) < (n : Int) := by omega
      have e7 : (0 : Int) ≤ (y : Int) := by omega
      have e8 : (y : Int) < (n : Int) := by omega
      have hxn : x < n := by omega
      have hyn : y < n := by omega
      have HXY : Hid (x ≠ y) := by intro e; omega
      have HX := hide hx
      have HY := hide hy
      obtain ⟨fj, hfj⟩ : ∃ F, srg f a b i = F := ⟨_, rfl⟩
      rw [hfj] at HAT
      have HFJ := hide hfj
      clear h1 h2 hx hy hfj
      go_wp2_with fail
      obtain ⟨vx, hvx⟩ : ∃ v, fj x = v := ⟨_, rfl⟩
      obtain ⟨vy, hvy⟩ : ∃ v, fj y = v := ⟨_, rfl⟩
      have HVX := hide hvx
      have HVY := hide hvy
      have HCC : Hid (∀ W, Below wr.heap.size wr W → (fun w' : World => w'.cell? ⟨g, x, none⟩ = some (.int .i64 (vx : Int)) ∧ w'.cell? ⟨g, y, none⟩ = some (.int .i64 (vy : Int))) W) := fun W hW => ⟨by rw [hW.cell (p := ⟨g, x, none⟩) (unhide HAT).own.lt, (unhide HAT).own.cell hxn, hvx], by rw [hW.cell (p := ⟨g, y, none⟩) (unhide HAT).own.lt, (unhide HAT).own.cell hyn, hvy]⟩
      clear hvx hvy
      refine wp_region_till (fun w' : World => w'.cell? ⟨g, x, none⟩ = some (.int .i64 (vx : Int)) ∧ w'.cell? ⟨g, y, none⟩ = some (.int .i64 (vy : Int))) 21 (by kernel_rfl) ?_
      have bd0 : Below wr.heap.size wr wr.drew := (Below.refl _ _).drew
      obtain ⟨WD, hWD⟩ : ∃ W, wr.drew = W := ⟨_, rfl⟩
      rw [hWD] at bd0 ⊢
      have hC0 : (fun w' : World => w'.cell? ⟨g, x, none⟩ = some (.int .i64 (vx : Int)) ∧ w'.cell? ⟨g, y, none⟩ = some (.int .i64 (vy : Int))) WD := unhide HCC _ bd0
      refine wpTill_pure (i := 0) (v := ?_) rfl (by kernel_rfl) (by kernel_rfl) (by kernel_rfl) (by kernel_rfl) (fun _ _ _ h => h) (Or.inl ⟨by rfl, ?_⟩) (fun _ => hC0) ?_
      rotate_left
      · intro w hSw; clear hSw; go_simp; (try with_reducible rfl)
      (try simp only [List.getElem_toArray, List.getElem_cons_succ, List.getElem_cons_zero])
      (try simp only [Act.put, List.setIfInBounds_toArray, List.set_cons_zero, List.set_cons_succ])
      refine wpTill_pure (i := 1) (v := ?_) rfl (by kernel_rfl) (by kernel_rfl) (by kernel_rfl) (by kernel_rfl) (fun _ _ _ h => h) (Or.inl ⟨by rfl, ?_⟩) (fun _ => hC0) ?_
      rotate_left
      · intro w hSw; clear hSw; go_simp; (try with_reducible rfl)
      (try simp only [List.getElem_toArray, List.getElem_cons_succ, List.getElem_cons_zero])
      (try simp only [Act.put, List.setIfInBounds_toArray, List.set_cons_zero, List.set_cons_succ])
      refine wpTill_pure (i := 2) (v := ?_) rfl (by kernel_rfl) (by kernel_rfl) (by kernel_rfl) (by kernel_rfl) (fun _ _ _ h => h) (Or.inl ⟨by rfl, ?_⟩) (fun _ => hC0) ?_
      rotate_left
      · intro w hSw; clear hSw; go_simp; (try with_reducible rfl)
      (try simp only [List.getElem_toArray, List.getElem_cons_succ, List.getElem_cons_zero])
      (try simp only [Act.put, List.setIfInBounds_toArray, List.set_cons_zero, List.set_cons_succ])
      refine wpTill_pure (i := 3) (v := ?_) rfl (by kernel_rfl) (by kernel_rfl) (by kernel_rfl) (by kernel_rfl) (fun _ _ _ h => h) (Or.inl ⟨by rfl, ?_⟩) (fun _ => hC0) ?_
      rotate_left
      · intro w hSw; clear hSw; go_simp; (try with_reducible rfl)
      (try simp only [List.getElem_toArray, List.getElem_cons_succ, List.getElem_cons_zero])
      (try simp only [Act.put, List.setIfInBounds_toArray, List.set_cons_zero, List.set_cons_succ])
      refine wpTill_pure (i := 4) (v := ?_) rfl (by kernel_rfl) (by kernel_rfl) (by kernel_rfl) (by kernel_rfl) (fun _ _ _ h => h) (Or.inl ⟨by rfl, ?_⟩) (fun _ => hC0) ?_
      rotate_left
      · intro w hSw; clear hSw; go_simp; (try with_reducible rfl)
      (try simp only [List.getElem_toArray, List.getElem_cons_succ, List.getElem_cons_zero])
      (try simp only [Act.put, List.setIfInBounds_toArray, List.set_cons_zero, List.set_cons_succ])
      refine wpTill_pure (i := 5) (v := ?_) rfl (by kernel_rfl) (by kernel_rfl) (by kernel_rfl) (by kernel_rfl) (fun _ _ _ h => h) (Or.inl ⟨by rfl, ?_⟩) (fun _ => hC0) ?_
      rotate_left
      · intro w hSw; clear hSw; go_simp; (try with_reducible rfl)
      (try simp only [List.getElem_toArray, List.getElem_cons_succ, List.getElem_cons_zero])
      (try simp only [Act.put, List.setIfInBounds_toArray, List.set_cons_zero, List.set_cons_succ])
      refine wpTill_pure (i := 6) (v := ?_) rfl (by kernel_rfl) (by kernel_rfl) (by kernel_rfl) (by kernel_rfl) (fun _ _ _ h => h) (Or.inl ⟨by rfl, ?_⟩) (fun _ => hC0) ?_
      rotate_left
      · intro w hSw; clear hSw; go_simp; (try with_reducible rfl)
      (try simp only [List.getElem_toArray, List.getElem_cons_succ, List.getElem_cons_zero])
      (try simp only [Act.put, List.setIfInBounds_toArray, List.set_cons_zero, List.set_cons_succ])
      refine wpTill_pure (i := 7) (v := ?_) rfl (by kernel_rfl) (by kernel_rfl) (by kernel_rfl) (by kernel_rfl) (fun _ _ _ h => h) (Or.inl ⟨by rfl, ?_⟩) (fun _ => hC0) ?_
      rotate_left
      · intro w hSw; clear hSw; go_simp; (try with_reducible rfl)
      (try simp only [List.getElem_toArray, List.getElem_cons_succ, List.getElem_cons_zero])
      (try simp only [Act.put, List.setIfInBounds_toArray, List.set_cons_zero, List.set_cons_succ])
      refine wpTill_pure (i := 8) (v := ?_) rfl (by kernel_rfl) (by kernel_rfl) (by kernel_rfl) (by kernel_rfl) (fun _ _ _ h => h) (Or.inl ⟨by rfl, ?_⟩) (fun _ => hC0) ?_
      rotate_left
      · intro w hSw; clear hSw; go_simp; (try with_reducible rfl)
      (try simp only [List.getElem_toArray, List.getElem_cons_succ, List.getElem_cons_zero])
      (try simp only [Act.put, List.setIfInBounds_toArray, List.set_cons_zero, List.set_cons_succ])
      refine wpTill_pure (i := 9) (v := ?_) rfl (by kernel_rfl) (by kernel_rfl) (by kernel_rfl) (by kernel_rfl) (fun _ _ _ h => h) (Or.inl ⟨by rfl, ?_⟩) (fun _ => hC0) ?_
      rotate_left
      · intro w hSw; clear hSw; go_simp; (try with_reducible rfl)
      (try simp only [List.getElem_toArray, List.getElem_cons_succ, List.getElem_cons_zero])
      (try simp only [Act.put, List.setIfInBounds_toArray, List.set_cons_zero, List.set_cons_succ])
      refine wpTill_pure (i := 10) (v := ?_) rfl (by kernel_rfl) (by kernel_rfl) (by kernel_rfl) (by kernel_rfl) (fun _ _ _ h => h) (Or.inl ⟨by rfl, ?_⟩) (fun _ => hC0) ?_
      rotate_left
      · intro w hSw; clear hSw; go_simp; (try with_reducible rfl)
      (try simp only [List.getElem_toArray, List.getElem_cons_succ, List.getElem_cons_zero])
      (try simp only [Act.put, List.setIfInBounds_toArray, List.set_cons_zero, List.set_cons_succ])
      refine wpTill_pure (i := 11) (v := ?_) rfl (by kernel_rfl) (by kernel_rfl) (by kernel_rfl) (by kernel_rfl) (fun _ _ _ h => h) (Or.inl ⟨by rfl, ?_⟩) (fun _ => hC0) ?_
      rotate_left
      · intro w hSw; clear hSw; go_simp; (try with_reducible rfl)
      (try simp only [List.getElem_toArray, List.getElem_cons_succ, List.getElem_cons_zero])
      (try simp only [Act.put, List.setIfInBounds_toArray, List.set_cons_zero, List.set_cons_succ])
      refine wpTill_pure (i := 12) (v := ?_) rfl (by kernel_rfl) (by kernel_rfl) (by kernel_rfl) (by kernel_rfl) (fun _ _ _ h => h) (Or.inl ⟨by rfl, ?_⟩) (fun _ => hC0) ?_
      rotate_left
      · intro w hSw; clear hSw; go_simp; (try with_reducible rfl)
      (try simp only [List.getElem_toArray, List.getElem_cons_succ, List.getElem_cons_zero])
      (try simp only [Act.put, List.setIfInBounds_toArray, List.set_cons_zero, List.set_cons_succ])
      refine wpTill_take (i := 13) (v := ?_) rfl (by kernel_rfl) (by kernel_rfl) (by kernel_rfl) (by kernel_rfl) (by kernel_rfl) (by kernel_rfl) (fun _ _ _ h => h) (Or.inl ⟨by rfl, ?_⟩) hC0 ?_
      rotate_left
      · intro w hSw; (try dsimp only at hSw); obtain ⟨z0, z1⟩ := hSw; go_simp; (try with_reducible rfl)
      (try simp only [List.getElem_toArray, List.getElem_cons_succ, List.getElem_cons_zero])
      (try simp only [Act.put, List.setIfInBounds_toArray, List.set_cons_zero, List.set_cons_succ])
      refine wpTill_pure (i := 14) (v := ?_) rfl (by kernel_rfl) (by kernel_rfl) (by kernel_rfl) (by kernel_rfl) (fun _ _ _ h => h) (Or.inl ⟨by rfl, ?_⟩) (fun _ => hC0) ?_
      rotate_left
      · intro w hSw; clear hSw; go_simp; (try with_reducible rfl)
      (try simp only [List.getElem_toArray, List.getElem_cons_succ, List.getElem_cons_zero])
      (try simp only [Act.put, List.setIfInBounds_toArray, List.set_cons_zero, List.set_cons_succ])
      refine wpTill_pure (i := 15) (v := ?_) rfl (by kernel_rfl) (by kernel_rfl) (by kernel_rfl) (by kernel_rfl) (fun _ _ _ h => h) (Or.inl ⟨by rfl, ?_⟩) (fun _ => hC0) ?_
      rotate_left
      · intro w hSw; clear hSw; go_simp; (try with_reducible rfl)
      (try simp only [List.getElem_toArray, List.getElem_cons_succ, List.getElem_cons_zero])
      (try simp only [Act.put, List.setIfInBounds_toArray, List.set_cons_zero, List.set_cons_succ])
      refine wpTill_pure (i := 16) (v := ?_) rfl (by kernel_rfl) (by kernel_rfl) (by kernel_rfl) (by kernel_rfl) (fun _ _ _ h => h) (Or.inl ⟨by rfl, ?_⟩) (fun _ => hC0) ?_
      rotate_left
      · intro w hSw; clear hSw; go_simp; (try with_reducible rfl)
      (try simp only [List.getElem_toArray, List.getElem_cons_succ, List.getElem_cons_zero])
      (try simp only [Act.put, List.setIfInBounds_toArray, List.set_cons_zero, List.set_cons_succ])
      refine wpTill_pure (i := 17) (v := ?_) rfl (by kernel_rfl) (by kernel_rfl) (by kernel_rfl) (by kernel_rfl) (fun _ _ _ h => h) (Or.inl ⟨by rfl, ?_⟩) (fun _ => hC0) ?_
      rotate_left
      · intro w hSw; clear hSw; go_simp; (try with_reducible rfl)
      (try simp only [List.getElem_toArray, List.getElem_cons_succ, List.getElem_cons_zero])
      (try simp only [Act.put, List.setIfInBounds_toArray, List.set_cons_zero, List.set_cons_succ])
      refine wpTill_pure (i := 18) (v := ?_) rfl (by kernel_rfl) (by kernel_rfl) (by kernel_rfl) (by kernel_rfl) (fun _ _ _ h => h) (Or.inl ⟨by rfl, ?_⟩) (fun _ => hC0) ?_
      rotate_left
      · intro w hSw; clear hSw; go_simp; (try with_reducible rfl)
      (try simp only [List.getElem_toArray, List.getElem_cons_succ, List.getElem_cons_zero])
      (try simp only [Act.put, List.setIfInBounds_toArray, List.set_cons_zero, List.set_cons_succ])
      refine wpTill_take (i := 19) (v := ?_) rfl (by kernel_rfl) (by kernel_rfl) (by kernel_rfl) (by kernel_rfl) (by kernel_rfl) (by kernel_rfl) (fun _ _ _ h => h) (Or.inl ⟨by rfl, ?_⟩) hC0 ?_
      rotate_left
      · intro w hSw; (try dsimp only at hSw); obtain ⟨z0, z1⟩ := hSw; go_simp; (try with_reducible rfl)
      (try simp only [List.getElem_toArray, List.getElem_cons_succ, List.getElem_cons_zero])
      (try simp only [Act.put, List.setIfInBounds_toArray, List.set_cons_zero, List.set_cons_succ])
      refine wpTill_pure (i := 20) (v := ?_) rfl (by kernel_rfl) (by kernel_rfl) (by kernel_rfl) (by kernel_rfl) (fun _ _ _ h => h) (Or.inl ⟨by rfl, ?_⟩) (fun _ => hC0) ?_
      rotate_left
      · intro w hSw; clear hSw; go_simp; (try with_reducible rfl)
      (try simp only [List.getElem_toArray, List.getElem_cons_succ, List.getElem_cons_zero])
      (try simp only [Act.put, List.setIfInBounds_toArray, List.set_cons_zero, List.set_cons_succ])
      have at0 := (unhide HAT).keep (unhide HCI) bd0
      have y0 := at0.own.cell hxn
      have l0 := at0.own.free x
      have at2 := at0.swap (unhide HCI) (unhide HGE) (x := x) (y := y) (unhide HXY)
      have o1 := at0.own.set x (vy : Int)
      rw [unhide HVX, unhide HVY] at at2
      obtain ⟨W5, hW5⟩ : ∃ W, WD.setCell ⟨g, x, none⟩ (.int .i64 (vy : Int)) = W := ⟨_, rfl⟩
      rw [hW5] at at2 o1
      have y1 := o1.cell hyn
      have l1 := o1.free y
      obtain ⟨W6, hW6⟩ : ∃ W, W5.setCell ⟨g, y, none⟩ (.int .i64 (vx : Int)) = W := ⟨_, rfl⟩
      rw [hW6] at at2
      have HA2 := hide at2
      obtain ⟨u0, y0⟩ : ∃ u : Value, WD.cell? ⟨g, x, none⟩ = some u := ⟨_, y0⟩
      obtain ⟨u1, y1⟩ : ∃ u : Value, W5.cell? ⟨g, y, none⟩ = some u := ⟨_, y1⟩
      clear at0 at2 o1
      refine wpTill_one (k := 21) (by kernel_rfl) rfl (fun K hK => ?_)
      (try simp only [List.getElem_toArray, List.getElem_cons_succ, List.getElem_cons_zero])
      go_simp
      refine hK.out _ _ (fun h => absurd (h.symm.trans (by kernel_rfl)) Bool.false_ne_true) ?_
      clear hK K
      (try simp only [Act.put, List.setIfInBounds_toArray, List.set_cons_zero, List.set_cons_succ])
      refine wpTill_one (k := 22) (by kernel_rfl) rfl (fun K hK => ?_)
      (try simp only [List.getElem_toArray, List.getElem_cons_succ, List.getElem_cons_zero])
      go_simp
      refine hK.out _ _ (fun h => absurd (h.symm.trans (by kernel_rfl)) Bool.false_ne_true) ?_
      clear hK K
      (try simp only [Act.put, List.setIfInBounds_toArray, List.set_cons_zero, List.set_cons_succ])
      refine wpTill_one (k := 23) (by kernel_rfl) rfl (fun K hK => ?_)
      (try simp only [List.getElem_toArray, List.getElem_cons_succ, List.getElem_cons_zero])
      go_simp
      refine hK.out _ _ (fun h => absurd (h.symm.trans (by kernel_rfl)) Bool.false_ne_true) ?_
      clear hK K
      (try simp only [Act.put, List.setIfInBounds_toArray, List.set_cons_zero, List.set_cons_succ])
      refine wpTill_done (by kernel_rfl) ?_ _
      clear hC0 bd0 HCC hW5 hW6 hWD y0 y1 l0 l1
      go_wp2_with fail
      refine ⟨⟨i + 1, by go_num, hlt, ?_⟩, by simp [intOf]; omega⟩
      have h := unhide HA2
      have h1 := unhide HAB
      rw [← unhide HX, ← unhide HY, ← unhide HFJ, srg_step f (by omega)] at h
      exact h
    · obtain rfl : i = k := by omega
      have e1 : ¬ (i : Int) < (i : Int) := by omega
      go_wp2
      (try simp only [Exit.inBlock, Exit.then])
      (try go_wp2)
      exact bodyPost_ret (v := .tuple #[]) (by simp [results, Try.results29, go_sem]) rfl ⟨rfl, unhide HAT⟩

set_option maxHeartbeats 8000000 in
set_option maxRecDepth 100000 in
set_option linter.unusedSimpArgs false in
theorem rotate_any (g n a m b : Nat) (f : Nat → Nat) (cv : Nat → Nat → Int) (fk : Nat) (bd : Array Value) (w0 w : World) (Inv : World → Prop) (CI : CmpInv g n cv fk bd Inv) (hn : n ≤ 100000) (ham : a < m) (hmb : m < b) (hbn : b ≤ n) (hge : w0.heap.size ≤ g) (hA : At w0 g n Inv f w) :
    Calls Try.prog 28 #[.slice (some ⟨g, 0, none⟩) n n, .int .i64 (a : Int), .int .i64 (m : Int), .int .i64 (b : Int), .func (.func fk) #[] bd] w (AtPost w0 g n Inv (rot f a m b)) := by
  have HSW : Hid (∀ (a b k : Nat) (f : Nat → Nat) (w : World), a + k ≤ b → b + k ≤ n → At w0 g n Inv f w → Calls Try.prog 29 #[.slice (some ⟨g, 0, none⟩) n n, .int .i64 (a : Int), .int .i64 (b : Int), .int .i64 (k : Int), .func (.func fk) #[] bd] w (AtPost w0 g n Inv (srg f a b k))) := fun a b k f w h1 h2 h3 => swapRange_any g n a b k f cv fk bd w0 w Inv CI hn h1 h2 hge h3
  have HA0 := hide hA
  have HAM := hide ham
  have HMB := hide hmb
  have HBN := hide hbn
  have e1 : IntKind.i64.wrap ((m : Int) - (a : Int)) = ((m - a : Nat) : Int) := by rw [IntKind.wrap_i64]; omega
  have e2 : IntKind.i64.wrap ((b : Int) - (m : Int)) = ((b - m : Nat) : Int) := by rw [IntKind.wrap_i64]; omega
  obtain ⟨i0, hi0⟩ : ∃ x, m - a = x := ⟨_, rfl⟩
  obtain ⟨j0, hj0⟩ : ∃ x, b - m = x := ⟨_, rfl⟩
  rw [hi0] at e1
  rw [hj0] at e2
  have HI0 := hide hi0
  have HJ0 := hide hj0
  clear CI hge hA ham hmb hbn hi0 hj0
  go_enter Try.func28, Try.ntmps28
  go_wp2_with fail
  clear e1 e2
  go_loopw [10, 11] (fun vi vj wr => ∃ (i j : Nat) (fj : Nat → Nat), vi = .int .i64 (i : Int) ∧ vj = .int .i64 (j : Int) ∧ 0 < i ∧ 0 < j ∧ i ≤ i0 ∧ j ≤ j0 ∧ rot fj (m - i) m (m + j) = rot f a m b ∧ At w0 g n Inv fj wr) (fun vi vj _ => (intOf vi).toNat + (intOf vj).toNat)
  case atStart =>
    have h1 := unhide HAM
    have h2 := unhide HMB
    have h3 := unhide HI0
    have h4 := unhide HJ0
    refine ⟨i0, j0, f, rfl, rfl, by omega, by omega, Nat.le_refl _, Nat.le_refl _, ?_, unhide HA0⟩
    rw [show m - i0 = a by omega, show m + j0 = b by omega]
  case round =>
    obtain ⟨i, j, fj, rfl, rfl, hi, hj, hii, hjj, hrot, hA⟩ := hrel
    have h1 := unhide HAM
    have h2 := unhide HMB
    have h3 := unhide HI0
    have h4 := unhide HJ0
    have h5 := unhide HBN
    have HAT := hide hA
    have HROT := hide hrot
    have x1 : IntKind.i64.wrap ((m : Int) - (i : Int)) = ((m - i : Nat) : Int) := by rw [IntKind.wrap_i64]; omega
    have b1 : i ≤ m := by omega
    have b2 : m + j ≤ n := by omega
    have b3 : m ≤ 100000 := by omega
    have HI := hide hi
    have HJ := hide hj
    have HII := hide hii
    have HJJ := hide hjj
    have HB1 := hide b1
    have HB2 := hide b2
    obtain ⟨x, hx⟩ : ∃ x, m - i = x := ⟨_, rfl⟩
    rw [hx] at x1
    have HX := hide hx
    clear hA hrot HA0 hx
    by_cases hne : i = j
    · subst hne
      have q1 : ((i : Int) == (i : Int)) = true := by simp
      have HC := hide (unhide HSW x m i fj wr (by have := unhide HX; omega) (by omega) (unhide HAT))
      clear h1 h2 h3 h4 h5 hi hj hii hjj b1 b2
      go_wp2_with fail
      (try simp only [Exit.inBlock, Exit.then])
      (try go_wp2_with fail)
      refine (unhide HC).mono ?_
      rintro e w2 ⟨rfl, hp⟩
      have HP := hide hp
      clear hp HC HSW
      go_wp2
      (try simp only [Exit.inBlock, Exit.then])
      (try go_wp2)
      refine bodyPost_ret (v := .tuple #[]) (by simp [results, Try.results28, go_sem]) rfl ⟨rfl, ?_⟩
      have h := unhide HP
      rw [← unhide HX, rot_eq fj (unhide HB1), unhide HROT] at h
      exact h
    · have q1 : ((i : Int) == (j : Int)) = false := by simp; omega
      have q3 : (i : Int) ≠ (j : Int) := by omega
      by_cases hgt : j < i
      · have q2 : (j : Int) < (i : Int) := by omega
        have x2 : IntKind.i64.wrap ((i : Int) - (j : Int)) = ((i - j : Nat) : Int) := by rw [IntKind.wrap_i64]; omega
        have HC := hide (unhide HSW x m j fj wr (by have := unhide HX; omega) (by omega) (unhide HAT))
        obtain ⟨y, hy⟩ : ∃ y, i - j = y := ⟨_, rfl⟩
        rw [hy] at x2
        have HY := hide hy
        clear h1 h2 h3 h4 h5 hi hj hii hjj hy b1 b2
        go_wp2_with fail
        refine (unhide HC).mono ?_
        rintro e w2 ⟨rfl, hp⟩
        have HP := hide hp
        clear hp HC HSW
        go_wp2_with fail
        have k1 := unhide HX
        have k2 := unhide HY
        have k3 := unhide HI
        have k4 := unhide HJ
        have k5 := unhide HII
        have k6 := unhide HJJ
        have k7 := unhide HB1
        refine ⟨⟨y, j, srg fj x m j, by go_num, rfl, by omega, by omega, by omega, by omega, ?_, unhide HP⟩, by simp [intOf]; omega⟩
        rw [← k1, ← k2, rot_gt fj (by omega) hgt (by omega)]
        exact unhide HROT
      · have q2 : ¬ (j : Int) < (i : Int) := by omega
        have x2 : IntKind.i64.wrap ((j : Int) - (i : Int)) = ((j - i : Nat) : Int) := by rw [IntKind.wrap_i64]; omega
        have x3 : IntKind.i64.wrap ((m : Int) + (j : Int)) = ((m + j : Nat) : Int) := by rw [IntKind.wrap_i64]; omega
        have x4 : IntKind.i64.wrap (((m + j : Nat) : Int) - (i : Int)) = ((m + j - i : Nat) : Int) := by rw [IntKind.wrap_i64]; omega
        have HC := hide (unhide HSW x (m + j - i) i fj wr (by have := unhide HX; omega) (by omega) (unhide HAT))
        obtain ⟨y, hy⟩ : ∃ y, j - i = y := ⟨_, rfl⟩
        obtain ⟨z, hz⟩ : ∃ z, m + j = z := ⟨_, rfl⟩
        rw [hz] at x3 x4 HC
        obtain ⟨u, hu⟩ : ∃ u, z - i = u := ⟨_, rfl⟩
        rw [hu] at x4 HC
        rw [hy] at x2
        have HY := hide hy
        have HZ := hide hz
        have HU := hide hu
        clear h1 h2 h3 h4 h5 hi hj hii hjj hy hz hu b1 b2
        go_wp2_with fail
        refine (unhide HC).mono ?_
        rintro e w2 ⟨rfl, hp⟩
        have HP := hide hp
        clear hp HC HSW
        go_wp2_with fail
        have k1 := unhide HX
        have k2 := unhide HY
        have k3 := unhide HI
        have k4 := unhide HJ
        have k5 := unhide HII
        have k6 := unhide HJJ
        have k7 := unhide HB1
        have k8 := unhide HZ
        have k9 := unhide HU
        refine ⟨⟨i, y, srg fj x u i, rfl, by go_num, by omega, by omega, by omega, by omega, ?_, unhide HP⟩, by simp [intOf]; omega⟩
        rw [← k1, ← k2, ← k9, ← k8, rot_lt fj (by omega) (by omega) (by omega)]
        exact unhide HROT

end Go.Proofs.Ytbbmhidnakghfaa
