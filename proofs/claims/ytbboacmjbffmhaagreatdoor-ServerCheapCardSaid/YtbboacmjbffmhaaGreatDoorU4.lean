/- What an order of classes costs. -/
import Derived.Test.YtbboacmjbffmhaaGreatDoorU3
import Derived.Test.YtbboacmjbffmhaaGreatDoorS7
namespace Go.Proofs.YtbboacmjbffmhaaGreatDoor
open Go.RowKit Go.Sort Go.Shelf

/-- Classes in an order. -/
def sel (ks : List (Rat × List Rat)) (f : Nat → Nat) (n : Nat) : List (Rat × List Rat) := (List.range n).map fun i => ks[f i]!
theorem sel_length (ks : List (Rat × List Rat)) (f : Nat → Nat) (n : Nat) : (sel ks f n).length = n := by simp [sel]
theorem sel_get {ks : List (Rat × List Rat)} {f : Nat → Nat} {n i : Nat} (h : i < n) : (sel ks f n)[i]! = ks[f i]! := by simp [sel, h]
theorem sel_sm {ks : List (Rat × List Rat)} (h : SmC ks) {f : Nat → Nat} {n : Nat} (hf : ∀ i, i < n → f i < ks.length) : SmC (sel ks f n) := fun j hj => by
  rw [sel_length] at hj
  rw [sel_get hj]
  exact h _ (hf j hj)
/-- What the first k cost. -/
def cstS (ks : List (Rat × List Rat)) (cs : List Rat) (f : Nat → Nat) (n k : Nat) : Rat := Bth.ps (fun i => cs[f i]! * (ks[f i]!).1 * waitsC (sel ks f n) i) k
theorem cst_RS {ks : List (Rat × List Rat)} {cs : List Rat} {f : Nat → Nat} {n : Nat} (sm : SmC ks) (hc : ∀ j, j < cs.length → RS cs[j]! 1) (hl : n ≤ 5) (hf : ∀ i, i < n → f i < ks.length) (hcl : cs.length = ks.length) (fit : FitC (sel ks f n)) : ∀ k, k ≤ n → RS (cstS ks cs f n k) (k * 910 + 1)
  | 0, _ => RS.zero
  | k + 1, hk => (RS.add (cst_RS sm hc hl hf hcl fit k (by omega)) (RS.mul (RS.mul (hc (f k) (by have := hf k (by omega); omega)) (sm (f k) (hf k (by omega))).1) (waits_RS (sel_sm sm hf) (by rw [sel_length]; omega) fit (by rw [sel_length]; omega)))).mono (by omega)
def CostPost (w : World) (ks : List (Rat × List Rat)) (cs : List Rat) (f : Nat → Nat) (n : Nat) (e : Ending) (w' : World) : Prop :=
  (FitC (sel ks f n) ∧ ∃ v, e = .returned (.tuple #[v, .nilIface]) ∧ RatIs w' v (cstS ks cs f n n) ∧ Below w.heap.size w w') ∨
  (¬ FitC (sel ks f n) ∧ ∃ (k : Int) (v : Value), e = .returned (.tuple #[v, .iface 56 (.int .i64 k)]) ∧ RatIs w' v 0 ∧ Below w.heap.size w w')
/-- What the closure has: the classes' and the costs' boxes. -/
structure Caught (w : World) (bc bk b o c b2 o2 c2 : Nat) (ks : List (Rat × List Rat)) (cs : List Rat) : Prop where
  cbox : w.heap[bc]? = some (.cells #[.slice (some ⟨b, o, none⟩) ks.length c] 28)
  kbox : w.heap[bk]? = some (.cells #[.slice (some ⟨b2, o2, none⟩) ks.length c2] 30)
  cls : ClassesAre w (.slice (some ⟨b, o, none⟩) ks.length c) ks
  law : LawIs w (.slice (some ⟨b2, o2, none⟩) ks.length c2) cs
theorem Caught.keep {w w' : World} {bc bk b o c b2 o2 c2 : Nat} {ks : List (Rat × List Rat)} {cs : List Rat} (h : Caught w bc bk b o c b2 o2 c2 ks cs) (hb : Below w.heap.size w w') : Caught w' bc bk b o c b2 o2 c2 ks cs :=
  ⟨by rw [hb.block _ (Array.getElem?_eq_some_iff.1 h.cbox).1]; exact h.cbox, by rw [hb.block _ (Array.getElem?_eq_some_iff.1 h.kbox).1]; exact h.kbox, h.cls.below hb, h.law.below hb⟩
theorem Caught.cells {w : World} {bc bk b o c b2 o2 c2 : Nat} {ks : List (Rat × List Rat)} {cs : List Rat} (h : Caught w bc bk b o c b2 o2 c2 ks cs) : w.cell? ⟨bc, 0, none⟩ = some (.slice (some ⟨b, o, none⟩) ks.length c) ∧ w.cell? ⟨bk, 0, none⟩ = some (.slice (some ⟨b2, o2, none⟩) ks.length c2) := by
  have h1 := h.cbox
  have h2 := h.kbox
  constructor <;> simp [World.cell?, h1, h2]
theorem ClassesAre.elim_some {w : World} {a : Option Addr} {n c : Nat} {ks : List (Rat × List Rat)} (h : ClassesAre w (.slice a n c) ks) (hp : 0 < ks.length) : ∃ b o, a = some ⟨b, o, none⟩ ∧ b < w.heap.size ∧ True := by
  obtain ⟨a', c', e, h1, h2, h3⟩ := h
  obtain ⟨b, o, ea, hlt, _⟩ := h3 hp
  injection e with e1 e2 e3
  exact ⟨b, o, by rw [e1]; exact ea, hlt, trivial⟩
theorem law_some {w : World} {a : Option Addr} {n c : Nat} {qs : List Rat} (h : LawIs w (.slice a n c) qs) (hp : 0 < qs.length) : ∃ b o, a = some ⟨b, o, none⟩ := by
  obtain ⟨a', c', e, h1, h2, h3⟩ := h
  obtain ⟨b, o, ea, hlt, _⟩ := h3 hp
  injection e with e1 e2 e3
  exact ⟨b, o, by rw [e1]; exact ea⟩
/-- A row of numbers that is read. -/
def NRow (w : World) (g n : Nat) (f : Nat → Nat) : Prop := g < w.heap.size ∧ ∀ j, j < n → w.cell? ⟨g, j, none⟩ = some (.int .i64 ((f j : Nat) : Int))
theorem NRow.keep {w w' : World} {g n : Nat} {f : Nat → Nat} (h : NRow w g n f) (hb : Below w.heap.size w w') : NRow w' g n f :=
  ⟨Nat.lt_of_lt_of_le h.1 hb.size, fun j hj => by rw [hb.cell (p := ⟨g, j, none⟩) h.1]; exact h.2 j hj⟩
theorem class_cells {w : World} {b o c n : Nat} {ks : List (Rat × List Rat)} (h : ClassesAre w (.slice (some ⟨b, o, none⟩) n c) ks) {j : Nat} (hj : j < ks.length) : b < w.heap.size ∧ ∃ (t : Tri) (l : Sl), (w.cell? ⟨b, o + j * 4, none⟩ = some (.bool t.s) ∧ w.cell? ⟨b, o + j * 4 + 1, none⟩ = some (.slice t.a1 t.n1 t.c1) ∧ w.cell? ⟨b, o + j * 4 + 2, none⟩ = some (.slice t.a2 t.n2 t.c2) ∧ w.cell? ⟨b, o + j * 4 + 3, none⟩ = some (.slice l.a l.n l.c)) ∧ ClassIs w t l ks[j]! := by
  obtain ⟨a, c', e, h1, h2, h3⟩ := h
  obtain ⟨b', o', ea, hlt, hc⟩ := h3 (by omega)
  injection e with e1 e2 e3
  rw [← e1] at ea
  injection ea with ea
  injection ea with eb eo
  subst eb eo
  exact ⟨hlt, hc j hj⟩
theorem law_cells {w : World} {b o c n : Nat} {qs : List Rat} (h : LawIs w (.slice (some ⟨b, o, none⟩) n c) qs) {j : Nat} (hj : j < qs.length) : b < w.heap.size ∧ ∃ t : Tri, (w.cell? ⟨b, o + j * 3, none⟩ = some (.bool t.s) ∧ w.cell? ⟨b, o + j * 3 + 1, none⟩ = some (.slice t.a1 t.n1 t.c1) ∧ w.cell? ⟨b, o + j * 3 + 2, none⟩ = some (.slice t.a2 t.n2 t.c2)) ∧ RatIs w t.val qs[j]! := by
  obtain ⟨a, c', e, h1, h2, h3⟩ := h
  obtain ⟨b', o', ea, hlt, hc⟩ := h3 (by omega)
  injection e with e1 e2 e3
  rw [← e1] at ea
  injection ea with ea
  injection ea with eb eo
  subst eb eo
  obtain ⟨s, a1, a2, n1, c1, n2, c2, k0, k1, k2, r⟩ := hc j hj
  exact ⟨hlt, (s, a1, a2, n1, c1, n2, c2), ⟨k0, k1, k2⟩, r⟩

set_option maxHeartbeats 8000000 in
set_option maxRecDepth 100000 in
set_option linter.unusedSimpArgs false in
theorem cost_any (g n cg bc bk b o c b2 o2 c2 : Nat) (f : Nat → Nat) (ks : List (Rat × List Rat)) (cs : List Rat) (w : World) (hk : ks.length = n) (hcl : cs.length = n) (hn : n ≤ 5) (hn2 : 2 ≤ n) (hcg : n ≤ cg) (hcg2 : cg ≤ 9223372036854775807) (hf : ∀ i, i < n → f i < n) (sm : SmC ks) (hcr : ∀ j, j < cs.length → RS cs[j]! 1) (hr : NRow w g n f) (hC : Caught w bc bk b o c b2 o2 c2 ks cs) :
    Calls Tryz.prog 9 #[.slice (some ⟨g, 0, none⟩) n cg, .pointer (some ⟨bc, 0, none⟩), .pointer (some ⟨bk, 0, none⟩)] w (CostPost w ks cs f n) := by
  have KKe : KK = 1099511627776 := rfl
  obtain ⟨tc, hi, hz0, hz1, hz2⟩ := info_parts Tryz.infoC
  have HI := hide hi
  have HZ0 := hide hz0
  have hfk : ∀ i, i < n → f i < ks.length := fun i hi => by rw [hk]; exact hf i hi
  have HSS := hide (sel_sm sm hfk)
  have HF := hide hf
  have HFK := hide hfk
  have HSM := hide sm
  have HCR := hide hcr
  have HKL := hide hk
  have HCL := hide hcl
  have bA := alloc_below w (.cells #[.bool false, .slice none 0 0, .slice none 0 0] 42)
  have X0 := BoxIs.new (w := w) (t := zTri) (q := 0) (rat_zero _)
  have hr0 := hr.keep bA
  have hC0 := hC.keep bA
  obtain ⟨W0, hW0⟩ : ∃ W, w.alloc (.cells #[.bool false, .slice none 0 0, .slice none 0 0] 42) = W := ⟨_, rfl⟩
  rw [show w.alloc (.cells #[.bool zTri.s, .slice zTri.a1 zTri.n1 zTri.c1, .slice zTri.a2 zTri.n2 zTri.c2] 42) = W0 from hW0] at X0
  obtain ⟨gr, hgr⟩ : ∃ g, w.heap.size = g := ⟨_, rfl⟩
  rw [hW0] at bA hr0 hC0
  rw [hgr] at X0
  have HX := hide X0
  have HB0 := hide bA
  have HNR := hide hr0
  have HCT := hide hC0
  have HLE : Hid (w.heap.size ≤ gr) := by show _ ≤ _; omega
  clear hi hz0 sm hcr hf hfk hk hcl bA X0 hr hC hr0 hC0
  go_enter Tryz.func9, Tryz.ntmps9
  go_wp2_with fail
  clear hW0 hgr
  go_loopw [6, 7] (fun vo vi wr => ∃ (i : Nat) (ts : List (Tri × Sl)), vi = .int .i64 (i : Int) ∧ i ≤ n ∧ ts.length = i ∧ CsAt W0 wr vo ts (sel ks f n)) (fun _ vi _ => n - (intOf vi).toNat)
  case atStart => exact ⟨0, [], rfl, Nat.zero_le _, rfl, CsAt.start _ _ _ (Below.refl _ _)⟩
  case round =>
    obtain ⟨i, ts, rfl, hi, hts, T⟩ := hrel
    by_cases hlt : i < n
    · obtain ⟨x, hx⟩ : ∃ x, f i = x := ⟨_, rfl⟩
      have hxn : x < ks.length := by rw [← hx]; exact unhide HFK i hlt
      have cr := (unhide HNR).2 i hlt
      rw [hx] at cr
      have hgl := (unhide HNR).1
      have cb := (unhide HCT).cells.1
      have hbl : bc < W0.heap.size := (Array.getElem?_eq_some_iff.1 (unhide HCT).cbox).1
      obtain ⟨hbb, tk, lk, ⟨k0, k1, k2, k3⟩, kr⟩ := class_cells (unhide HCT).cls hxn
      have HC0 : Hid (∀ W, Below W0.heap.size W0 W → (fun w' : World => w'.cell? ⟨bc, 0, none⟩ = some (.slice (some ⟨b, o, none⟩) ks.length c) ∧ w'.cell? ⟨g, i, none⟩ = some (.int .i64 (x : Int)) ∧ (w'.cell? ⟨b, o + x * 4, none⟩ = some (.bool tk.s) ∧ w'.cell? ⟨b, o + x * 4 + 1, none⟩ = some (.slice tk.a1 tk.n1 tk.c1) ∧ w'.cell? ⟨b, o + x * 4 + 2, none⟩ = some (.slice tk.a2 tk.n2 tk.c2) ∧ w'.cell? ⟨b, o + x * 4 + 3, none⟩ = some (.slice lk.a lk.n lk.c))) W) := fun W hW => by
        refine ⟨by rw [hW.cell (p := ⟨bc, 0, none⟩) hbl]; exact cb, by rw [hW.cell (p := ⟨g, i, none⟩) hgl]; exact cr, ?_⟩
        rw [hW.cell (p := ⟨b, o + x * 4, none⟩) hbb, hW.cell (p := ⟨b, o + x * 4 + 1, none⟩) hbb, hW.cell (p := ⟨b, o + x * 4 + 2, none⟩) hbb, hW.cell (p := ⟨b, o + x * 4 + 3, none⟩) hbb]
        exact ⟨k0, k1, k2, k3⟩
      have HCC : Hid (∀ W, Below wr.heap.size wr W → (fun w' : World => w'.cell? ⟨bc, 0, none⟩ = some (.slice (some ⟨b, o, none⟩) ks.length c) ∧ w'.cell? ⟨g, i, none⟩ = some (.int .i64 (x : Int)) ∧ (w'.cell? ⟨b, o + x * 4, none⟩ = some (.bool tk.s) ∧ w'.cell? ⟨b, o + x * 4 + 1, none⟩ = some (.slice tk.a1 tk.n1 tk.c1) ∧ w'.cell? ⟨b, o + x * 4 + 2, none⟩ = some (.slice tk.a2 tk.n2 tk.c2) ∧ w'.cell? ⟨b, o + x * 4 + 3, none⟩ = some (.slice lk.a lk.n lk.c))) W) := fun W hW => unhide HC0 W (below_step T.bl hW)
      have hrg : (sel ks f n)[ts.length]! = ks[x]! := by rw [hts, sel_get hlt, hx]
      have hlaw : 0 < lk.n → ∀ ad, lk.a = some ad → u6.ownBlock ≠ some ad.block := fun h0 ad e he => by
        have h1 := law_lt kr.2 h0 e
        have h2 := (ownsC_block T.own _ he).1
        omega
      have HT := hide T
      have HKR := hide (kr.below T.bl)
      have HLW := hide hlaw
      have HRG := hide hrg
      have HTS := hide hts
      have e1 : (i : Int) < (n : Int) := by omega
      have e0 : (0 : Int) ≤ (i : Int) := by omega
      have e3 : IntKind.i64.wrap ((i : Int) + 1) = (i : Int) + 1 := by rw [IntKind.wrap_i64]; omega
      have e5 : (x : Int) < (ks.length : Int) := by omega
      have e6 : (0 : Int) ≤ (x : Int) := by omega
      clear T kr hlaw hrg hts k0 k1 k2 k3 cr cb hbl hgl hbb hx hxn
      go_wp2_with fail
      refine wp_region_hold (fun w' : World => w'.cell? ⟨bc, 0, none⟩ = some (.slice (some ⟨b, o, none⟩) ks.length c) ∧ w'.cell? ⟨g, i, none⟩ = some (.int .i64 (x : Int)) ∧ (w'.cell? ⟨b, o + x * 4, none⟩ = some (.bool tk.s) ∧ w'.cell? ⟨b, o + x * 4 + 1, none⟩ = some (.slice tk.a1 tk.n1 tk.c1) ∧ w'.cell? ⟨b, o + x * 4 + 2, none⟩ = some (.slice tk.a2 tk.n2 tk.c2) ∧ w'.cell? ⟨b, o + x * 4 + 3, none⟩ = some (.slice lk.a lk.n lk.c))) (by kernel_rfl) ?_
      have bd0 : Below wr.heap.size wr wr.drew := (Below.refl _ _).drew
      have hC0 : (fun w' : World => w'.cell? ⟨bc, 0, none⟩ = some (.slice (some ⟨b, o, none⟩) ks.length c) ∧ w'.cell? ⟨g, i, none⟩ = some (.int .i64 (x : Int)) ∧ (w'.cell? ⟨b, o + x * 4, none⟩ = some (.bool tk.s) ∧ w'.cell? ⟨b, o + x * 4 + 1, none⟩ = some (.slice tk.a1 tk.n1 tk.c1) ∧ w'.cell? ⟨b, o + x * 4 + 2, none⟩ = some (.slice tk.a2 tk.n2 tk.c2) ∧ w'.cell? ⟨b, o + x * 4 + 3, none⟩ = some (.slice lk.a lk.n lk.c))) wr.drew := unhide HCC _ bd0
      refine wpHold_take (i := 0) (v := ?_) rfl (by kernel_rfl) (by kernel_rfl) (by kernel_rfl) (fun _ _ _ h => h) (Or.inl ⟨by rfl, ?_⟩) hC0 ?_
      rotate_left
      · intro w hSw; clear hSw; go_simp; (try with_reducible rfl)
      (try simp only [List.getElem_toArray, List.getElem_cons_succ, List.getElem_cons_zero])
      (try simp only [Act.put, List.setIfInBounds_toArray, List.set_cons_zero, List.set_cons_succ])
      refine wpHold_take (i := 1) (v := ?_) rfl (by kernel_rfl) (by kernel_rfl) (by kernel_rfl) (fun _ _ _ h => h) (Or.inl ⟨by rfl, ?_⟩) hC0 ?_
      rotate_left
      · intro w hSw; (try dsimp only at hSw); obtain ⟨z0, z1, z2, z3, z4, z5⟩ := hSw; go_simp; (try with_reducible rfl)
      (try simp only [List.getElem_toArray, List.getElem_cons_succ, List.getElem_cons_zero])
      (try simp only [Act.put, List.setIfInBounds_toArray, List.set_cons_zero, List.set_cons_succ])
      refine wpHold_take (i := 2) (v := ?_) rfl (by kernel_rfl) (by kernel_rfl) (by kernel_rfl) (fun _ _ _ h => h) (Or.inl ⟨by rfl, ?_⟩) hC0 ?_
      rotate_left
      · intro w hSw; clear hSw; go_simp; (try with_reducible rfl)
      (try simp only [List.getElem_toArray, List.getElem_cons_succ, List.getElem_cons_zero])
      (try simp only [Act.put, List.setIfInBounds_toArray, List.set_cons_zero, List.set_cons_succ])
      refine wpHold_take (i := 3) (v := ?_) rfl (by kernel_rfl) (by kernel_rfl) (by kernel_rfl) (fun _ _ _ h => h) (Or.inl ⟨by rfl, ?_⟩) hC0 ?_
      rotate_left
      · intro w hSw; clear hSw; go_simp; (try with_reducible rfl)
      (try simp only [List.getElem_toArray, List.getElem_cons_succ, List.getElem_cons_zero])
      (try simp only [Act.put, List.setIfInBounds_toArray, List.set_cons_zero, List.set_cons_succ])
      refine wpHold_take (i := 4) (v := ?_) rfl (by kernel_rfl) (by kernel_rfl) (by kernel_rfl) (fun _ _ _ h => h) (Or.inl ⟨by rfl, ?_⟩) hC0 ?_
      rotate_left
      · intro w hSw; clear hSw; go_simp; (try with_reducible rfl)
      (try simp only [List.getElem_toArray, List.getElem_cons_succ, List.getElem_cons_zero])
      (try simp only [Act.put, List.setIfInBounds_toArray, List.set_cons_zero, List.set_cons_succ])
      refine wpHold_take (i := 5) (v := ?_) rfl (by kernel_rfl) (by kernel_rfl) (by kernel_rfl) (fun _ _ _ h => h) (Or.inl ⟨by rfl, ?_⟩) hC0 ?_
      rotate_left
      · intro w hSw; (try dsimp only at hSw); obtain ⟨z0, z1, z2, z3, z4, z5⟩ := hSw; go_simp; (try with_reducible rfl)
      (try simp only [List.getElem_toArray, List.getElem_cons_succ, List.getElem_cons_zero])
      (try simp only [Act.put, List.setIfInBounds_toArray, List.set_cons_zero, List.set_cons_succ])
      refine wpHold_take (i := 6) (v := ?_) rfl (by kernel_rfl) (by kernel_rfl) (by kernel_rfl) (fun _ _ _ h => h) (Or.inl ⟨by rfl, ?_⟩) hC0 ?_
      rotate_left
      · intro w hSw; clear hSw; go_simp; (try with_reducible rfl)
      (try simp only [List.getElem_toArray, List.getElem_cons_succ, List.getElem_cons_zero])
      (try simp only [Act.put, List.setIfInBounds_toArray, List.set_cons_zero, List.set_cons_succ])
      refine wpHold_take (i := 7) (v := ?_) rfl (by kernel_rfl) (by kernel_rfl) (by kernel_rfl) (fun _ _ _ h => h) (Or.inl ⟨by rfl, ?_⟩) hC0 ?_
      rotate_left
      · intro w hSw; (try dsimp only at hSw); obtain ⟨z0, z1, z2, z3, z4, z5⟩ := hSw; go_simp; (try with_reducible rfl)
      (try simp only [List.getElem_toArray, List.getElem_cons_succ, List.getElem_cons_zero])
      (try simp only [Act.put, List.setIfInBounds_toArray, List.set_cons_zero, List.set_cons_succ])
      refine wpHold_one (k := 8) (by kernel_rfl) rfl (fun K hK => ?_)
      (try simp only [List.getElem_toArray, List.getElem_cons_succ, List.getElem_cons_zero])
      go_simp
      have bL := alloc_below wr.drew (.cells #[.bool tk.s, .slice tk.a1 tk.n1 tk.c1, .slice tk.a2 tk.n2 tk.c2, .slice lk.a lk.n lk.c] 45)
      have cc_3 := below_step bd0 bL
      have hC_3 : (fun w' : World => w'.cell? ⟨bc, 0, none⟩ = some (.slice (some ⟨b, o, none⟩) ks.length c) ∧ w'.cell? ⟨g, i, none⟩ = some (.int .i64 (x : Int)) ∧ (w'.cell? ⟨b, o + x * 4, none⟩ = some (.bool tk.s) ∧ w'.cell? ⟨b, o + x * 4 + 1, none⟩ = some (.slice tk.a1 tk.n1 tk.c1) ∧ w'.cell? ⟨b, o + x * 4 + 2, none⟩ = some (.slice tk.a2 tk.n2 tk.c2) ∧ w'.cell? ⟨b, o + x * 4 + 3, none⟩ = some (.slice lk.a lk.n lk.c))) (wr.drew.alloc (.cells #[.bool tk.s, .slice tk.a1 tk.n1 tk.c1, .slice tk.a2 tk.n2 tk.c2, .slice lk.a lk.n lk.c] 45)) := unhide HCC _ cc_3
      refine hK.out _ _ hC_3 ?_
      clear hK K
      (try simp only [Act.put, List.setIfInBounds_toArray, List.set_cons_zero, List.set_cons_succ])
      have T3 := (unhide HT).keep cc_3
      have kr3 := (unhide HKR).below cc_3
      have hlen64 : (ts.length + 1) * 80 ≤ 140737488355328 := by have := unhide HTS; omega
      have hlen63 : ts.length + 1 ≤ maxLen := by have := unhide HTS; unfold maxLen; omega
      have hsz2 : (wr.drew.alloc (.cells #[.bool tk.s, .slice tk.a1 tk.n1 tk.c1, .slice tk.a2 tk.n2 tk.c2, .slice lk.a lk.n lk.c] 45)).heap.size = wr.drew.heap.size + 1 := by rw [alloc_heap, Array.size_push]
      refine wpHold_one (k := 9) (by kernel_rfl) rfl (fun K hK => ?_)
      refine step_append_class _ rfl _ _ _ rfl W0.heap.size 45 tc 80 Tryz.underlying28 (unhide HI) (unhide HZ0) hz1 hz2 _ ts.length (ccells ts) rfl T3.own T3.no ⟨wr.drew.heap.size, 0, none⟩ 1 1 (cc (tk, lk)) rfl rfl (news_class wr.drew (tk, lk) _) (cc_one (tk, lk)) (cc_notWord (tk, lk)) (by decide) hlen63 hlen64 T3.bl.size (wr.drew.heap.size + 1) hsz2 ?_
      intro g9 cap w4 hown4 hgrow hat hlt4 hno4
      have FIN := T3.push (p := (tk, lk)) (by rw [unhide HRG]; exact kr3) (unhide HLW) hown4 hgrow (by rw [hsz2]; exact hat) hno4
      have hC_4 : (fun w' : World => w'.cell? ⟨bc, 0, none⟩ = some (.slice (some ⟨b, o, none⟩) ks.length c) ∧ w'.cell? ⟨g, i, none⟩ = some (.int .i64 (x : Int)) ∧ (w'.cell? ⟨b, o + x * 4, none⟩ = some (.bool tk.s) ∧ w'.cell? ⟨b, o + x * 4 + 1, none⟩ = some (.slice tk.a1 tk.n1 tk.c1) ∧ w'.cell? ⟨b, o + x * 4 + 2, none⟩ = some (.slice tk.a2 tk.n2 tk.c2) ∧ w'.cell? ⟨b, o + x * 4 + 3, none⟩ = some (.slice lk.a lk.n lk.c))) w4 := unhide HC0 _ FIN.bl
      refine hK.out _ _ hC_4 ?_
      clear hK K
      (try simp only [Act.put, List.setIfInBounds_toArray, List.set_cons_zero, List.set_cons_succ])
      refine wpHold_one (k := 10) (by kernel_rfl) rfl (fun K hK => ?_)
      (try simp only [List.getElem_toArray, List.getElem_cons_succ, List.getElem_cons_zero])
      go_simp
      refine hK.out _ _ hC_4 ?_
      clear hK K
      (try simp only [Act.put, List.setIfInBounds_toArray, List.set_cons_zero, List.set_cons_succ])
      refine wpHold_done (by kernel_rfl) ?_ _
      have HFIN := hide FIN
      clear FIN hown4 hgrow hat hno4 T3 kr3 HT hC_4 hC_3 HCC HC0 hC0 bd0 cc_3 bL hlen63 hlen64 hsz2
      go_wp2_with fail
      exact ⟨⟨i + 1, ts ++ [(tk, lk)], by go_num, hlt, by rw [List.length_append, unhide HTS]; rfl, unhide HFIN⟩, by simp [intOf]; omega⟩
    · obtain rfl : i = n := by omega
      have e1 : ¬ (i : Int) < (i : Int) := by omega
      have CL := T.classes (by rw [hts, sel_length])
      have HB1 := hide T.bl
      have HCL1 := hide CL
      have HWS := hide (waits_any _ (sel ks f i) wr CL (unhide HSS) (by rw [sel_length]; omega))
      obtain ⟨ax, cx, rfl, x1, x2, x3⟩ := CL
      rw [sel_length] at x1 HCL1 HWS ⊢
      clear T x3 hts
      go_wp2_with fail
      (try simp only [Exit.inBlock, Exit.then])
      go_wp2_with fail
      refine (unhide HWS).mono ?_
      rintro e w1 (⟨hfit, vw, rfl, hvw, hb1⟩ | ⟨hng, k, rfl, hb1⟩)
      rotate_left
      · have HNG := hide hng
        have HB2 := hide (below_step (unhide HB1) hb1)
        clear hng hb1 HWS
        have em : ¬ (i : Int) < 0 := by omega
        go_wp2_with fail
        refine (whole_any 0 (by decide) (by decide) w1).mono ?_
        rintro e w2 ⟨v2, rfl, hv2, hb2⟩
        obtain ⟨ts, rfl, rs⟩ := tri_of hv2
        simp only [Tri.val]
        have bS := below_step hb2 (alloc_below w2 (.cells #[.bool ts.s, .slice ts.a1 ts.n1 ts.c1, .slice ts.a2 ts.n2 ts.c2] 42))
        have XS := BoxIs.new rs
        obtain ⟨W3, hW3⟩ : ∃ W, w2.alloc (.cells #[.bool ts.s, .slice ts.a1 ts.n1 ts.c1, .slice ts.a2 ts.n2 ts.c2] 42) = W := ⟨_, rfl⟩
        obtain ⟨bs, hbs⟩ : ∃ g, w2.heap.size = g := ⟨_, rfl⟩
        rw [hW3] at bS XS
        rw [hbs] at XS
        have HXS := hide XS
        have HB3 := hide (below_step (unhide HB2) bS)
        clear XS bS rs hv2 hb2 HB2
        go_wp2_with fail
        clear hW3 hbs
        go_loopw [11] (fun vi wr => vi = .int .i64 0 ∧ wr = W3) (fun _ _ => 0)
        case atStart => exact ⟨rfl, rfl⟩
        case round =>
          obtain ⟨rfl, rfl⟩ := hrel
          have X8 := (unhide HX).keep (unhide HB3)
          have ⟨l0, l1, l2⟩ := X8.free
          have ⟨y0, y1, y2⟩ := X8.cells _ (Below.refl _ _)
          have ⟨m0, m1, m2⟩ := (unhide HXS).cells _ (Below.refl _ _)
          have FX := X8.set (unhide HXS).2
          have FB := (((below_step (unhide HB0) (unhide HB3)).setCell (p := ⟨gr, 0, none⟩) (unhide HLE) (.bool ts.s)).setCell (p := ⟨gr, 1, none⟩) (unhide HLE) (.slice ts.a1 ts.n1 ts.c1)).setCell (p := ⟨gr, 2, none⟩) (unhide HLE) (.slice ts.a2 ts.n2 ts.c2)
          obtain ⟨W9, hW9⟩ : ∃ W, ((wr.setCell ⟨gr, 0, none⟩ (.bool ts.s)).setCell ⟨gr, 1, none⟩ (.slice ts.a1 ts.n1 ts.c1)).setCell ⟨gr, 2, none⟩ (.slice ts.a2 ts.n2 ts.c2) = W := ⟨_, rfl⟩
          rw [hW9] at FX FB
          have ⟨x0', x1', x2'⟩ := FX.cells _ (Below.refl _ _)
          have HFX := hide FX
          have HFB := hide FB
          clear X8 FX FB
          go_wp2
          (try simp only [Exit.inBlock, Exit.then])
          (try go_wp2)
          exact bodyPost_ret (v := .tuple #[.agg #[.bool ts.s, .slice ts.a1 ts.n1 ts.c1, .slice ts.a2 ts.n2 ts.c2], .iface 56 (.int .i64 k)]) (by simp [results, Tryz.results9, go_sem, x0', x1', x2']) rfl (Or.inr ⟨unhide HNG, k, _, rfl, (unhide HFX).2, unhide HFB⟩)
      have HFIT := hide hfit
      have HVW := hide hvw
      obtain ⟨aw, cw, rfl, v1, v2, v3⟩ := hvw
      rw [row_length, sel_length] at v1 HVW ⊢
      have HB2 := hide (below_step (unhide HB1) hb1)
      have HCL2 := hide ((unhide HCL1).below hb1)
      clear hfit hb1 v3 HWS HCL1
      have em : ¬ (i : Int) < (i : Int) := by omega
      have ew : (i : Int) ≤ (cw : Int) := by omega
      go_wp2_with fail
      refine (whole_any 0 (by decide) (by decide) w1).mono ?_
      rintro e w2 ⟨vz, rfl, hvz, hb2⟩
      obtain ⟨ts0, rfl, rs⟩ := tri_of hvz
      simp only [Tri.val]
      have bS := alloc_below w2 (.cells #[.bool ts0.s, .slice ts0.a1 ts0.n1 ts0.c1, .slice ts0.a2 ts0.n2 ts0.c2] 42)
      have XS := BoxIs.new rs
      have HVW2 := hide ((unhide HVW).below hb2)
      have HCL3 := hide ((unhide HCL2).below hb2)
      have HB3 := hide (below_step (unhide HB2) hb2)
      obtain ⟨W3, hW3⟩ : ∃ W, w2.alloc (.cells #[.bool ts0.s, .slice ts0.a1 ts0.n1 ts0.c1, .slice ts0.a2 ts0.n2 ts0.c2] 42) = W := ⟨_, rfl⟩
      obtain ⟨bs, hbs⟩ : ∃ g, w2.heap.size = g := ⟨_, rfl⟩
      rw [hW3] at bS XS
      rw [hbs] at XS
      have HXS0 := hide XS
      have HBS0 := hide bS
      have HLS : Hid (w2.heap.size ≤ bs) := Nat.le_of_eq hbs
      clear XS bS rs hvz hb2 HB2 HVW HCL2
      go_wp2_with fail
      clear hW3 hbs
      obtain ⟨bx, ox, hax, hbxl, _⟩ := (unhide HCL3).elim_some (by rw [sel_length]; omega)
      obtain rfl := hax
      obtain ⟨bw, ow, haw⟩ := law_some (unhide HVW2) (by rw [row_length]; omega)
      obtain rfl := haw
      go_loopw [11] (fun vj wr => ∃ (j : Nat) (ts : Tri), vj = .int .i64 (j : Int) ∧ j ≤ i ∧ BoxIs wr bs ts (cstS ks cs f i j) ∧ Below w2.heap.size w2 wr) (fun vj _ => i - (intOf vj).toNat)
      case atStart => exact ⟨0, _, rfl, Nat.zero_le _, unhide HXS0, unhide HBS0⟩
      case round =>
        obtain ⟨j, ts, rfl, hj, Xs, hbj⟩ := hrel
        have HXS := hide Xs
        have HBJ := hide hbj
        clear Xs hbj HXS0 HBS0
        by_cases hlj : j < i
        · have f1 : (j : Int) < (i : Int) := by omega
          have f0 : (0 : Int) ≤ (j : Int) := by omega
          have f3 : IntKind.i64.wrap ((j : Int) + 1) = (j : Int) + 1 := by rw [IntKind.wrap_i64]; omega
          obtain ⟨x, hx⟩ : ∃ x, f j = x := ⟨_, rfl⟩
          have hxn : x < ks.length := by rw [← hx]; exact unhide HFK j hlj
          have B0 := below_step (unhide HB3) (unhide HBJ)
          have CT := (unhide HCT).keep B0
          have NR := (unhide HNR).keep B0
          have cr := NR.2 j hlj
          rw [hx] at cr
          have ck := CT.cells.2
          have hkl : bk < wr.heap.size := (Array.getElem?_eq_some_iff.1 CT.kbox).1
          obtain ⟨hb2l, tc1, c2c, rc⟩ := law_cells CT.law (j := x) (by have := unhide HCL; have := unhide HKL; omega)
          obtain ⟨hbxl', tx, lx, cx4, rx⟩ := class_cells ((unhide HCL3).below (unhide HBJ)) (j := j) (by rw [sel_length]; exact hlj)
          rw [sel_get hlj, hx] at rx
          obtain ⟨hbwl, tw, cw3, rw1⟩ := law_cells ((unhide HVW2).below (unhide HBJ)) (j := j) (by rw [row_length]; exact hlj)
          rw [row_get hlj] at rw1
          have HCC : Hid (∀ W, Below wr.heap.size wr W → (fun w' : World => (w'.cell? ⟨bs, 0, none⟩ = some (.bool ts.s) ∧ w'.cell? ⟨bs, 1, none⟩ = some (.slice ts.a1 ts.n1 ts.c1) ∧ w'.cell? ⟨bs, 2, none⟩ = some (.slice ts.a2 ts.n2 ts.c2)) ∧ w'.cell? ⟨bk, 0, none⟩ = some (.slice (some ⟨b2, o2, none⟩) ks.length c2) ∧ w'.cell? ⟨g, j, none⟩ = some (.int .i64 (x : Int)) ∧ (w'.cell? ⟨b2, o2 + x * 3, none⟩ = some (.bool tc1.s) ∧ w'.cell? ⟨b2, o2 + x * 3 + 1, none⟩ = some (.slice tc1.a1 tc1.n1 tc1.c1) ∧ w'.cell? ⟨b2, o2 + x * 3 + 2, none⟩ = some (.slice tc1.a2 tc1.n2 tc1.c2)) ∧ (w'.cell? ⟨bx, ox + j * 4, none⟩ = some (.bool tx.s) ∧ w'.cell? ⟨bx, ox + j * 4 + 1, none⟩ = some (.slice tx.a1 tx.n1 tx.c1) ∧ w'.cell? ⟨bx, ox + j * 4 + 2, none⟩ = some (.slice tx.a2 tx.n2 tx.c2) ∧ w'.cell? ⟨bx, ox + j * 4 + 3, none⟩ = some (.slice lx.a lx.n lx.c)) ∧ (w'.cell? ⟨bw, ow + j * 3, none⟩ = some (.bool tw.s) ∧ w'.cell? ⟨bw, ow + j * 3 + 1, none⟩ = some (.slice tw.a1 tw.n1 tw.c1) ∧ w'.cell? ⟨bw, ow + j * 3 + 2, none⟩ = some (.slice tw.a2 tw.n2 tw.c2))) W) := fun W hW => by
            refine ⟨(unhide HXS).cells W hW, by rw [hW.cell (p := ⟨bk, 0, none⟩) hkl]; exact ck, by rw [hW.cell (p := ⟨g, j, none⟩) NR.1]; exact cr, ?_, ?_, ?_⟩
            · rw [hW.cell (p := ⟨b2, o2 + x * 3, none⟩) hb2l, hW.cell (p := ⟨b2, o2 + x * 3 + 1, none⟩) hb2l, hW.cell (p := ⟨b2, o2 + x * 3 + 2, none⟩) hb2l]; exact c2c
            · rw [hW.cell (p := ⟨bx, ox + j * 4, none⟩) hbxl', hW.cell (p := ⟨bx, ox + j * 4 + 1, none⟩) hbxl', hW.cell (p := ⟨bx, ox + j * 4 + 2, none⟩) hbxl', hW.cell (p := ⟨bx, ox + j * 4 + 3, none⟩) hbxl']
              exact cx4
            · rw [hW.cell (p := ⟨bw, ow + j * 3, none⟩) hbwl, hW.cell (p := ⟨bw, ow + j * 3 + 1, none⟩) hbwl, hW.cell (p := ⟨bw, ow + j * 3 + 2, none⟩) hbwl]; exact cw3
          have HRC := hide rc
          have HRX := hide rx.1
          have HRW := hide rw1
          have HCX := hide (unhide HCR x (by have := unhide HCL; have := unhide HKL; omega))
          have HXX := hide (unhide HSM x hxn).1
          have HWR := hide (waits_RS (unhide HSS) (by rw [sel_length]; omega) (unhide HFIT) (i := j) (by rw [sel_length]; exact hlj))
          have HM1 : Hid (∀ W, Below wr.heap.size wr W → Calls Tryz.prog 13 #[.agg #[.bool tc1.s, .slice tc1.a1 tc1.n1 tc1.c1, .slice tc1.a2 tc1.n2 tc1.c2], .agg #[.bool tx.s, .slice tx.a1 tx.n1 tx.c1, .slice tx.a2 tx.n2 tx.c2]] W fun e w' => ∃ v, e = .returned v ∧ RatIs w' v (cs[x]! * (ks[x]!).1) ∧ Below W.heap.size W w') := fun W hW => mulR_any tc1.val tx.val _ _ W ((unhide HRC).below hW) ((unhide HRX).below hW) 1 (unhide HCX) (unhide HXX) (by rw [KKe]; omega)
          have HM2 : Hid (∀ W v (hW : Below wr.heap.size wr W) (hv : RatIs W v (cs[x]! * (ks[x]!).1)), Calls Tryz.prog 13 #[v, .agg #[.bool tw.s, .slice tw.a1 tw.n1 tw.c1, .slice tw.a2 tw.n2 tw.c2]] W fun e w' => ∃ v, e = .returned v ∧ RatIs w' v (cs[x]! * (ks[x]!).1 * waitsC (sel ks f i) j) ∧ Below W.heap.size W w') := fun W v hW hv => mulR_any v tw.val _ _ W hv ((unhide HRW).below hW) 900 ((RS.mul (unhide HCX) (unhide HXX)).mono (by omega)) (unhide HWR) (by rw [KKe]; omega)
          have HAD : Hid (∀ W v (hW : Below wr.heap.size wr W) (hv : RatIs W v (cs[x]! * (ks[x]!).1 * waitsC (sel ks f i) j)), Calls Tryz.prog 12 #[.agg #[.bool ts.s, .slice ts.a1 ts.n1 ts.c1, .slice ts.a2 ts.n2 ts.c2], v] W fun e w' => ∃ v, e = .returned v ∧ RatIs w' v (cstS ks cs f i (j + 1)) ∧ Below W.heap.size W w') := fun W v hW hv => by
            have h := addR_any ts.val v _ _ W ((unhide HXS).2.below hW) hv 6000 ((cst_RS (unhide HSM) (unhide HCR) hn (unhide HFK) (by have := unhide HCL; have := unhide HKL; omega) (unhide HFIT) j (by omega)).mono (by omega)) ((RS.mul (RS.mul (unhide HCX) (unhide HXX)) (unhide HWR)).mono (by omega)) (by rw [KKe]; omega)
            rw [← hx] at h
            exact h
          have f5 : (x : Int) < (ks.length : Int) := by omega
          have f6 : (0 : Int) ≤ (x : Int) := by omega
          clear B0 CT NR cr ck hkl c2c rc cx4 rx cw3 rw1 hb2l hbxl' hbwl hx hxn
          go_wp2_with fail
          refine wp_region_till (fun w' : World => (w'.cell? ⟨bs, 0, none⟩ = some (.bool ts.s) ∧ w'.cell? ⟨bs, 1, none⟩ = some (.slice ts.a1 ts.n1 ts.c1) ∧ w'.cell? ⟨bs, 2, none⟩ = some (.slice ts.a2 ts.n2 ts.c2)) ∧ w'.cell? ⟨bk, 0, none⟩ = some (.slice (some ⟨b2, o2, none⟩) ks.length c2) ∧ w'.cell? ⟨g, j, none⟩ = some (.int .i64 (x : Int)) ∧ (w'.cell? ⟨b2, o2 + x * 3, none⟩ = some (.bool tc1.s) ∧ w'.cell? ⟨b2, o2 + x * 3 + 1, none⟩ = some (.slice tc1.a1 tc1.n1 tc1.c1) ∧ w'.cell? ⟨b2, o2 + x * 3 + 2, none⟩ = some (.slice tc1.a2 tc1.n2 tc1.c2)) ∧ (w'.cell? ⟨bx, ox + j * 4, none⟩ = some (.bool tx.s) ∧ w'.cell? ⟨bx, ox + j * 4 + 1, none⟩ = some (.slice tx.a1 tx.n1 tx.c1) ∧ w'.cell? ⟨bx, ox + j * 4 + 2, none⟩ = some (.slice tx.a2 tx.n2 tx.c2) ∧ w'.cell? ⟨bx, ox + j * 4 + 3, none⟩ = some (.slice lx.a lx.n lx.c)) ∧ (w'.cell? ⟨bw, ow + j * 3, none⟩ = some (.bool tw.s) ∧ w'.cell? ⟨bw, ow + j * 3 + 1, none⟩ = some (.slice tw.a1 tw.n1 tw.c1) ∧ w'.cell? ⟨bw, ow + j * 3 + 2, none⟩ = some (.slice tw.a2 tw.n2 tw.c2))) 20 (by kernel_rfl) ?_
          have bd0 : Below wr.heap.size wr wr.drew := (Below.refl _ _).drew
          have hC0 : (fun w' : World => (w'.cell? ⟨bs, 0, none⟩ = some (.bool ts.s) ∧ w'.cell? ⟨bs, 1, none⟩ = some (.slice ts.a1 ts.n1 ts.c1) ∧ w'.cell? ⟨bs, 2, none⟩ = some (.slice ts.a2 ts.n2 ts.c2)) ∧ w'.cell? ⟨bk, 0, none⟩ = some (.slice (some ⟨b2, o2, none⟩) ks.length c2) ∧ w'.cell? ⟨g, j, none⟩ = some (.int .i64 (x : Int)) ∧ (w'.cell? ⟨b2, o2 + x * 3, none⟩ = some (.bool tc1.s) ∧ w'.cell? ⟨b2, o2 + x * 3 + 1, none⟩ = some (.slice tc1.a1 tc1.n1 tc1.c1) ∧ w'.cell? ⟨b2, o2 + x * 3 + 2, none⟩ = some (.slice tc1.a2 tc1.n2 tc1.c2)) ∧ (w'.cell? ⟨bx, ox + j * 4, none⟩ = some (.bool tx.s) ∧ w'.cell? ⟨bx, ox + j * 4 + 1, none⟩ = some (.slice tx.a1 tx.n1 tx.c1) ∧ w'.cell? ⟨bx, ox + j * 4 + 2, none⟩ = some (.slice tx.a2 tx.n2 tx.c2) ∧ w'.cell? ⟨bx, ox + j * 4 + 3, none⟩ = some (.slice lx.a lx.n lx.c)) ∧ (w'.cell? ⟨bw, ow + j * 3, none⟩ = some (.bool tw.s) ∧ w'.cell? ⟨bw, ow + j * 3 + 1, none⟩ = some (.slice tw.a1 tw.n1 tw.c1) ∧ w'.cell? ⟨bw, ow + j * 3 + 2, none⟩ = some (.slice tw.a2 tw.n2 tw.c2))) wr.drew := unhide HCC _ bd0
          refine wpTill_take (i := 0) (v := ?_) rfl (by kernel_rfl) (by kernel_rfl) (by kernel_rfl) (by kernel_rfl) (by kernel_rfl) (by kernel_rfl) (fun _ _ _ h => h) (Or.inl ⟨by rfl, ?_⟩) hC0 ?_
          rotate_left
          · intro w hSw; (try dsimp only at hSw); obtain ⟨⟨z0, z1, z2⟩, z3, z4, ⟨z5, z6, z7⟩, ⟨z8, z9, z10, z11⟩, z12, z13, z14⟩ := hSw; go_simp; (try with_reducible rfl)
          (try simp only [List.getElem_toArray, List.getElem_cons_succ, List.getElem_cons_zero])
          (try simp only [Act.put, List.setIfInBounds_toArray, List.set_cons_zero, List.set_cons_succ])
          refine wpTill_take (i := 1) (v := ?_) rfl (by kernel_rfl) (by kernel_rfl) (by kernel_rfl) (by kernel_rfl) (by kernel_rfl) (by kernel_rfl) (fun _ _ _ h => h) (Or.inl ⟨by rfl, ?_⟩) hC0 ?_
          rotate_left
          · intro w hSw; (try dsimp only at hSw); obtain ⟨⟨z0, z1, z2⟩, z3, z4, ⟨z5, z6, z7⟩, ⟨z8, z9, z10, z11⟩, z12, z13, z14⟩ := hSw; go_simp; (try with_reducible rfl)
          (try simp only [List.getElem_toArray, List.getElem_cons_succ, List.getElem_cons_zero])
          (try simp only [Act.put, List.setIfInBounds_toArray, List.set_cons_zero, List.set_cons_succ])
          refine wpTill_pure (i := 2) (v := ?_) rfl (by kernel_rfl) (by kernel_rfl) (by kernel_rfl) (by kernel_rfl) (fun _ _ _ h => h) (Or.inl ⟨by rfl, ?_⟩) (fun _ => hC0) ?_
          rotate_left
          · intro w hSw; clear hSw; go_simp; (try with_reducible rfl)
          (try simp only [List.getElem_toArray, List.getElem_cons_succ, List.getElem_cons_zero])
          (try simp only [Act.put, List.setIfInBounds_toArray, List.set_cons_zero, List.set_cons_succ])
          refine wpTill_pure (i := 3) (v := ?_) rfl (by kernel_rfl) (by kernel_rfl) (by kernel_rfl) (by kernel_rfl) (fun _ _ _ h => h) (Or.inl ⟨by rfl, ?_⟩) (fun _ => hC0) ?_
          rotate_left
          · intro w hSw; clear hSw; go_simp; (try with_reducible rfl)
          (try simp only [List.getElem_toArray, List.getElem_cons_succ, List.getElem_cons_zero])
          (try simp only [Act.put, List.setIfInBounds_toArray, List.set_cons_zero, List.set_cons_succ])
          refine wpTill_pure (i := 4) (v := ?_) rfl (by kernel_rfl) (by kernel_rfl) (by kernel_rfl) (by kernel_rfl) (fun _ _ _ h => h) (Or.inl ⟨by rfl, ?_⟩) (fun _ => hC0) ?_
          rotate_left
          · intro w hSw; clear hSw; go_simp; (try with_reducible rfl)
          (try simp only [List.getElem_toArray, List.getElem_cons_succ, List.getElem_cons_zero])
          (try simp only [Act.put, List.setIfInBounds_toArray, List.set_cons_zero, List.set_cons_succ])
          refine wpTill_take (i := 5) (v := ?_) rfl (by kernel_rfl) (by kernel_rfl) (by kernel_rfl) (by kernel_rfl) (by kernel_rfl) (by kernel_rfl) (fun _ _ _ h => h) (Or.inl ⟨by rfl, ?_⟩) hC0 ?_
          rotate_left
          · intro w hSw; (try dsimp only at hSw); obtain ⟨⟨z0, z1, z2⟩, z3, z4, ⟨z5, z6, z7⟩, ⟨z8, z9, z10, z11⟩, z12, z13, z14⟩ := hSw; go_simp; (try with_reducible rfl)
          (try simp only [List.getElem_toArray, List.getElem_cons_succ, List.getElem_cons_zero])
          (try simp only [Act.put, List.setIfInBounds_toArray, List.set_cons_zero, List.set_cons_succ])
          refine wpTill_pure (i := 6) (v := ?_) rfl (by kernel_rfl) (by kernel_rfl) (by kernel_rfl) (by kernel_rfl) (fun _ _ _ h => h) (Or.inl ⟨by rfl, ?_⟩) (fun _ => hC0) ?_
          rotate_left
          · intro w hSw; clear hSw; go_simp; (try with_reducible rfl)
          (try simp only [List.getElem_toArray, List.getElem_cons_succ, List.getElem_cons_zero])
          (try simp only [Act.put, List.setIfInBounds_toArray, List.set_cons_zero, List.set_cons_succ])
          refine wpTill_take (i := 7) (v := ?_) rfl (by kernel_rfl) (by kernel_rfl) (by kernel_rfl) (by kernel_rfl) (by kernel_rfl) (by kernel_rfl) (fun _ _ _ h => h) (Or.inl ⟨by rfl, ?_⟩) hC0 ?_
          rotate_left
          · intro w hSw; (try dsimp only at hSw); obtain ⟨⟨z0, z1, z2⟩, z3, z4, ⟨z5, z6, z7⟩, ⟨z8, z9, z10, z11⟩, z12, z13, z14⟩ := hSw; go_simp; (try with_reducible rfl)
          (try simp only [List.getElem_toArray, List.getElem_cons_succ, List.getElem_cons_zero])
          (try simp only [Act.put, List.setIfInBounds_toArray, List.set_cons_zero, List.set_cons_succ])
          refine wpTill_pure (i := 8) (v := ?_) rfl (by kernel_rfl) (by kernel_rfl) (by kernel_rfl) (by kernel_rfl) (fun _ _ _ h => h) (Or.inl ⟨by rfl, ?_⟩) (fun _ => hC0) ?_
          rotate_left
          · intro w hSw; clear hSw; go_simp; (try with_reducible rfl)
          (try simp only [List.getElem_toArray, List.getElem_cons_succ, List.getElem_cons_zero])
          (try simp only [Act.put, List.setIfInBounds_toArray, List.set_cons_zero, List.set_cons_succ])
          refine wpTill_pure (i := 9) (v := ?_) rfl (by kernel_rfl) (by kernel_rfl) (by kernel_rfl) (by kernel_rfl) (fun _ _ _ h => h) (Or.inl ⟨by rfl, ?_⟩) (fun _ => hC0) ?_
          rotate_left
          · intro w hSw; clear hSw; go_simp; (try with_reducible rfl)
          (try simp only [List.getElem_toArray, List.getElem_cons_succ, List.getElem_cons_zero])
          (try simp only [Act.put, List.setIfInBounds_toArray, List.set_cons_zero, List.set_cons_succ])
          refine wpTill_pure (i := 10) (v := ?_) rfl (by kernel_rfl) (by kernel_rfl) (by kernel_rfl) (by kernel_rfl) (fun _ _ _ h => h) (Or.inl ⟨by rfl, ?_⟩) (fun _ => hC0) ?_
          rotate_left
          · intro w hSw; clear hSw; go_simp; (try with_reducible rfl)
          (try simp only [List.getElem_toArray, List.getElem_cons_succ, List.getElem_cons_zero])
          (try simp only [Act.put, List.setIfInBounds_toArray, List.set_cons_zero, List.set_cons_succ])
          refine wpTill_pure (i := 11) (v := ?_) rfl (by kernel_rfl) (by kernel_rfl) (by kernel_rfl) (by kernel_rfl) (fun _ _ _ h => h) (Or.inl ⟨by rfl, ?_⟩) (fun _ => hC0) ?_
          rotate_left
          · intro w hSw; clear hSw; go_simp; (try with_reducible rfl)
          (try simp only [List.getElem_toArray, List.getElem_cons_succ, List.getElem_cons_zero])
          (try simp only [Act.put, List.setIfInBounds_toArray, List.set_cons_zero, List.set_cons_succ])
          refine wpTill_take (i := 12) (v := ?_) rfl (by kernel_rfl) (by kernel_rfl) (by kernel_rfl) (by kernel_rfl) (by kernel_rfl) (by kernel_rfl) (fun _ _ _ h => h) (Or.inl ⟨by rfl, ?_⟩) hC0 ?_
          rotate_left
          · intro w hSw; (try dsimp only at hSw); obtain ⟨⟨z0, z1, z2⟩, z3, z4, ⟨z5, z6, z7⟩, ⟨z8, z9, z10, z11⟩, z12, z13, z14⟩ := hSw; go_simp; (try with_reducible rfl)
          (try simp only [List.getElem_toArray, List.getElem_cons_succ, List.getElem_cons_zero])
          (try simp only [Act.put, List.setIfInBounds_toArray, List.set_cons_zero, List.set_cons_succ])
          refine wpTill_pure (i := 14) (v := ?_) rfl (by kernel_rfl) (by kernel_rfl) (by kernel_rfl) (by kernel_rfl) (fun _ _ _ h => h) (Or.inl ⟨by rfl, ?_⟩) (fun _ => hC0) ?_
          rotate_left
          · intro w hSw; clear hSw; go_simp; (try with_reducible rfl)
          (try simp only [List.getElem_toArray, List.getElem_cons_succ, List.getElem_cons_zero])
          (try simp only [Act.put, List.setIfInBounds_toArray, List.set_cons_zero, List.set_cons_succ])
          refine wpTill_pure (i := 15) (v := ?_) rfl (by kernel_rfl) (by kernel_rfl) (by kernel_rfl) (by kernel_rfl) (fun _ _ _ h => h) (Or.inl ⟨by rfl, ?_⟩) (fun _ => hC0) ?_
          rotate_left
          · intro w hSw; clear hSw; go_simp; (try with_reducible rfl)
          (try simp only [List.getElem_toArray, List.getElem_cons_succ, List.getElem_cons_zero])
          (try simp only [Act.put, List.setIfInBounds_toArray, List.set_cons_zero, List.set_cons_succ])
          refine wpTill_pure (i := 16) (v := ?_) rfl (by kernel_rfl) (by kernel_rfl) (by kernel_rfl) (by kernel_rfl) (fun _ _ _ h => h) (Or.inl ⟨by rfl, ?_⟩) (fun _ => hC0) ?_
          rotate_left
          · intro w hSw; clear hSw; go_simp; (try with_reducible rfl)
          (try simp only [List.getElem_toArray, List.getElem_cons_succ, List.getElem_cons_zero])
          (try simp only [Act.put, List.setIfInBounds_toArray, List.set_cons_zero, List.set_cons_succ])
          refine wpTill_take (i := 17) (v := ?_) rfl (by kernel_rfl) (by kernel_rfl) (by kernel_rfl) (by kernel_rfl) (by kernel_rfl) (by kernel_rfl) (fun _ _ _ h => h) (Or.inl ⟨by rfl, ?_⟩) hC0 ?_
          rotate_left
          · intro w hSw; (try dsimp only at hSw); obtain ⟨⟨z0, z1, z2⟩, z3, z4, ⟨z5, z6, z7⟩, ⟨z8, z9, z10, z11⟩, z12, z13, z14⟩ := hSw; go_simp; (try with_reducible rfl)
          (try simp only [List.getElem_toArray, List.getElem_cons_succ, List.getElem_cons_zero])
          (try simp only [Act.put, List.setIfInBounds_toArray, List.set_cons_zero, List.set_cons_succ])
          refine wpTill_one (k := 13) (by kernel_rfl) rfl (fun K hK => ?_)
          (try simp only [List.getElem_toArray, List.getElem_cons_succ, List.getElem_cons_zero])
          go_simp
          refine (unhide HM1 _ bd0).mono ?_
          rintro e xw_1 ⟨xv_1, rfl, hv_1, hb_1⟩
          have cc_1 := below_step bd0 hb_1
          have hC_1 : (fun w' : World => (w'.cell? ⟨bs, 0, none⟩ = some (.bool ts.s) ∧ w'.cell? ⟨bs, 1, none⟩ = some (.slice ts.a1 ts.n1 ts.c1) ∧ w'.cell? ⟨bs, 2, none⟩ = some (.slice ts.a2 ts.n2 ts.c2)) ∧ w'.cell? ⟨bk, 0, none⟩ = some (.slice (some ⟨b2, o2, none⟩) ks.length c2) ∧ w'.cell? ⟨g, j, none⟩ = some (.int .i64 (x : Int)) ∧ (w'.cell? ⟨b2, o2 + x * 3, none⟩ = some (.bool tc1.s) ∧ w'.cell? ⟨b2, o2 + x * 3 + 1, none⟩ = some (.slice tc1.a1 tc1.n1 tc1.c1) ∧ w'.cell? ⟨b2, o2 + x * 3 + 2, none⟩ = some (.slice tc1.a2 tc1.n2 tc1.c2)) ∧ (w'.cell? ⟨bx, ox + j * 4, none⟩ = some (.bool tx.s) ∧ w'.cell? ⟨bx, ox + j * 4 + 1, none⟩ = some (.slice tx.a1 tx.n1 tx.c1) ∧ w'.cell? ⟨bx, ox + j * 4 + 2, none⟩ = some (.slice tx.a2 tx.n2 tx.c2) ∧ w'.cell? ⟨bx, ox + j * 4 + 3, none⟩ = some (.slice lx.a lx.n lx.c)) ∧ (w'.cell? ⟨bw, ow + j * 3, none⟩ = some (.bool tw.s) ∧ w'.cell? ⟨bw, ow + j * 3 + 1, none⟩ = some (.slice tw.a1 tw.n1 tw.c1) ∧ w'.cell? ⟨bw, ow + j * 3 + 2, none⟩ = some (.slice tw.a2 tw.n2 tw.c2))) xw_1 := unhide HCC _ cc_1
          refine hK.out _ _ (fun _ => hC_1) ?_
          clear hK K
          (try simp only [Act.put, List.setIfInBounds_toArray, List.set_cons_zero, List.set_cons_succ])
          refine wpTill_one (k := 18) (by kernel_rfl) rfl (fun K hK => ?_)
          (try simp only [List.getElem_toArray, List.getElem_cons_succ, List.getElem_cons_zero])
          go_simp
          refine (unhide HM2 _ _ cc_1 hv_1).mono ?_
          rintro e xw_2 ⟨xv_2, rfl, hv_2, hb_2⟩
          have cc_2 := below_step cc_1 hb_2
          have hC_2 : (fun w' : World => (w'.cell? ⟨bs, 0, none⟩ = some (.bool ts.s) ∧ w'.cell? ⟨bs, 1, none⟩ = some (.slice ts.a1 ts.n1 ts.c1) ∧ w'.cell? ⟨bs, 2, none⟩ = some (.slice ts.a2 ts.n2 ts.c2)) ∧ w'.cell? ⟨bk, 0, none⟩ = some (.slice (some ⟨b2, o2, none⟩) ks.length c2) ∧ w'.cell? ⟨g, j, none⟩ = some (.int .i64 (x : Int)) ∧ (w'.cell? ⟨b2, o2 + x * 3, none⟩ = some (.bool tc1.s) ∧ w'.cell? ⟨b2, o2 + x * 3 + 1, none⟩ = some (.slice tc1.a1 tc1.n1 tc1.c1) ∧ w'.cell? ⟨b2, o2 + x * 3 + 2, none⟩ = some (.slice tc1.a2 tc1.n2 tc1.c2)) ∧ (w'.cell? ⟨bx, ox + j * 4, none⟩ = some (.bool tx.s) ∧ w'.cell? ⟨bx, ox + j * 4 + 1, none⟩ = some (.slice tx.a1 tx.n1 tx.c1) ∧ w'.cell? ⟨bx, ox + j * 4 + 2, none⟩ = some (.slice tx.a2 tx.n2 tx.c2) ∧ w'.cell? ⟨bx, ox + j * 4 + 3, none⟩ = some (.slice lx.a lx.n lx.c)) ∧ (w'.cell? ⟨bw, ow + j * 3, none⟩ = some (.bool tw.s) ∧ w'.cell? ⟨bw, ow + j * 3 + 1, none⟩ = some (.slice tw.a1 tw.n1 tw.c1) ∧ w'.cell? ⟨bw, ow + j * 3 + 2, none⟩ = some (.slice tw.a2 tw.n2 tw.c2))) xw_2 := unhide HCC _ cc_2
          refine hK.out _ _ (fun _ => hC_2) ?_
          clear hK K
          (try simp only [Act.put, List.setIfInBounds_toArray, List.set_cons_zero, List.set_cons_succ])
          refine wpTill_one (k := 19) (by kernel_rfl) rfl (fun K hK => ?_)
          (try simp only [List.getElem_toArray, List.getElem_cons_succ, List.getElem_cons_zero])
          go_simp
          refine (unhide HAD _ _ cc_2 hv_2).mono ?_
          rintro e xw_3 ⟨xv_3, rfl, hv_3, hb_3⟩
          have cc_3 := below_step cc_2 hb_3
          have hC_3 : (fun w' : World => (w'.cell? ⟨bs, 0, none⟩ = some (.bool ts.s) ∧ w'.cell? ⟨bs, 1, none⟩ = some (.slice ts.a1 ts.n1 ts.c1) ∧ w'.cell? ⟨bs, 2, none⟩ = some (.slice ts.a2 ts.n2 ts.c2)) ∧ w'.cell? ⟨bk, 0, none⟩ = some (.slice (some ⟨b2, o2, none⟩) ks.length c2) ∧ w'.cell? ⟨g, j, none⟩ = some (.int .i64 (x : Int)) ∧ (w'.cell? ⟨b2, o2 + x * 3, none⟩ = some (.bool tc1.s) ∧ w'.cell? ⟨b2, o2 + x * 3 + 1, none⟩ = some (.slice tc1.a1 tc1.n1 tc1.c1) ∧ w'.cell? ⟨b2, o2 + x * 3 + 2, none⟩ = some (.slice tc1.a2 tc1.n2 tc1.c2)) ∧ (w'.cell? ⟨bx, ox + j * 4, none⟩ = some (.bool tx.s) ∧ w'.cell? ⟨bx, ox + j * 4 + 1, none⟩ = some (.slice tx.a1 tx.n1 tx.c1) ∧ w'.cell? ⟨bx, ox + j * 4 + 2, none⟩ = some (.slice tx.a2 tx.n2 tx.c2) ∧ w'.cell? ⟨bx, ox + j * 4 + 3, none⟩ = some (.slice lx.a lx.n lx.c)) ∧ (w'.cell? ⟨bw, ow + j * 3, none⟩ = some (.bool tw.s) ∧ w'.cell? ⟨bw, ow + j * 3 + 1, none⟩ = some (.slice tw.a1 tw.n1 tw.c1) ∧ w'.cell? ⟨bw, ow + j * 3 + 2, none⟩ = some (.slice tw.a2 tw.n2 tw.c2))) xw_3 := unhide HCC _ cc_3
          refine hK.out _ _ (fun _ => hC_3) ?_
          clear hK K
          (try simp only [Act.put, List.setIfInBounds_toArray, List.set_cons_zero, List.set_cons_succ])
          obtain ⟨tn, rfl, rn⟩ := tri_of hv_3
          simp only [Tri.val]
          have Xs8 := (unhide HXS).keep cc_3
          have ⟨l0, l1, l2⟩ := Xs8.free
          have ⟨y0, y1, y2⟩ := Xs8.cells _ (Below.refl _ _)
          have Fs := Xs8.set rn
          have B8 := (((below_step (unhide HBJ) cc_3).setCell (p := ⟨bs, 0, none⟩) (unhide HLS) (.bool tn.s)).setCell (p := ⟨bs, 1, none⟩) (unhide HLS) (.slice tn.a1 tn.n1 tn.c1)).setCell (p := ⟨bs, 2, none⟩) (unhide HLS) (.slice tn.a2 tn.n2 tn.c2)
          obtain ⟨W10, hW10⟩ : ∃ W, ((xw_3.setCell ⟨bs, 0, none⟩ (.bool tn.s)).setCell ⟨bs, 1, none⟩ (.slice tn.a1 tn.n1 tn.c1)).setCell ⟨bs, 2, none⟩ (.slice tn.a2 tn.n2 tn.c2) = W := ⟨_, rfl⟩
          rw [hW10] at Fs B8
          have HFS := hide Fs
          have HFB := hide B8
          clear Xs8 Fs B8 rn hv_1 hb_1 hv_2 hb_2 hv_3 hb_3
          refine wpTill_one (k := 20) (by kernel_rfl) rfl (fun K hK => ?_)
          (try simp only [List.getElem_toArray, List.getElem_cons_succ, List.getElem_cons_zero])
          go_simp
          refine hK.out _ _ (fun h => absurd (h.symm.trans (by kernel_rfl)) Bool.false_ne_true) ?_
          clear hK K
          (try simp only [Act.put, List.setIfInBounds_toArray, List.set_cons_zero, List.set_cons_succ])
          refine wpTill_done (by kernel_rfl) ?_ _
          clear l0 l1 l2 y0 y1 y2 hW10 hC0 hC_1 hC_2 hC_3 cc_1 cc_2 cc_3 bd0 HCC HM1 HM2 HAD
          go_wp2_with fail
          exact ⟨⟨j + 1, _, by go_num, hlj, unhide HFS, unhide HFB⟩, by simp [intOf]; omega⟩
        · obtain rfl : j = i := by omega
          have f1 : ¬ (j : Int) < (j : Int) := by omega
          have X8 := (unhide HX).keep (below_step (unhide HB3) (unhide HBJ))
          have ⟨l0, l1, l2⟩ := X8.free
          have ⟨y0, y1, y2⟩ := X8.cells _ (Below.refl _ _)
          have ⟨m0, m1, m2⟩ := (unhide HXS).cells _ (Below.refl _ _)
          have FX := X8.set (unhide HXS).2
          have FB := (((below_step (unhide HB0) (below_step (unhide HB3) (unhide HBJ))).setCell (p := ⟨gr, 0, none⟩) (unhide HLE) (.bool ts.s)).setCell (p := ⟨gr, 1, none⟩) (unhide HLE) (.slice ts.a1 ts.n1 ts.c1)).setCell (p := ⟨gr, 2, none⟩) (unhide HLE) (.slice ts.a2 ts.n2 ts.c2)
          obtain ⟨W9, hW9⟩ : ∃ W, ((wr.setCell ⟨gr, 0, none⟩ (.bool ts.s)).setCell ⟨gr, 1, none⟩ (.slice ts.a1 ts.n1 ts.c1)).setCell ⟨gr, 2, none⟩ (.slice ts.a2 ts.n2 ts.c2) = W := ⟨_, rfl⟩
          rw [hW9] at FX FB
          have ⟨x0', x1', x2'⟩ := FX.cells _ (Below.refl _ _)
          have HFX := hide FX
          have HFB := hide FB
          clear X8 FX FB
          go_wp2
          (try simp only [Exit.inBlock, Exit.then])
          (try go_wp2)
          exact bodyPost_ret (v := .tuple #[.agg #[.bool ts.s, .slice ts.a1 ts.n1 ts.c1, .slice ts.a2 ts.n2 ts.c2], .nilIface]) (by simp [results, Tryz.results9, go_sem, x0', x1', x2']) rfl (Or.inl ⟨unhide HFIT, _, rfl, (unhide HFX).2, unhide HFB⟩)
end Go.Proofs.YtbboacmjbffmhaaGreatDoor
