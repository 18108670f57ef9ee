/- chance.Both. -/
import Derived.Test.YtdicbnchkfclaaaDoorB9
import Derived.Test.YtdicbnchkfclaaaDoorW46
namespace Go.Proofs.YtdicbnchkfclaaaDoor
open Go.RowKit Go.Sort Go.Shelf

/-- What one amount adds. -/
def rowAdd (B : List Rat) (x : Rat) (i : Nat) : Nat → List Rat → List Rat
  | 0, l => l
  | j + 1, l => (rowAdd B x i j l).set (i + j) ((rowAdd B x i j l)[i + j]! + x * B[j]!)
/-- The sums behind i amounts of the first. -/
def conv (A B : List Rat) (n K : Nat) : Nat → List Rat
  | 0 => List.replicate K 0
  | i + 1 => rowAdd B A[i]! i n (conv A B n K i)

theorem tlen_pos (qs : List Rat) : ∀ {n}, 0 < n → 0 < tlen qs n
  | 1, _ => Nat.one_pos
  | n + 2, _ => by
    unfold tlen
    split
    · exact tlen_pos qs (Nat.succ_pos n)
    · omega

structure InAt (w wi : World) (G gx : Nat) (us : List Tri) (l : List Rat) (tx : Tri) (qx : Rat) : Prop where
  sums : SumsAt w wi G us l
  bx : wi.heap[gx]? = some (.cells #[.bool tx.s, .slice tx.a1 tx.n1 tx.c1, .slice tx.a2 tx.n2 tx.c2] 36)
  rx : RatIs wi tx.val qx
  ne : gx ≠ G

theorem InAt.keep {w wi w' : World} {G gx : Nat} {us : List Tri} {l : List Rat} {tx : Tri} {qx : Rat} (h : InAt w wi G gx us l tx qx) (hb : Below wi.heap.size wi w') : InAt w w' G gx us l tx qx :=
  ⟨h.sums.keep hb, by rw [hb.block _ (Array.getElem?_eq_some_iff.1 h.bx).1]; exact h.bx, h.rx.below hb, h.ne⟩

theorem InAt.set {w wi : World} {G gx : Nat} {us : List Tri} {l : List Rat} {tx : Tri} {qx : Rat} (h : InAt w wi G gx us l tx qx) (j : Nat) (hj : j < us.length) (t : Tri) (q : Rat) (hr : RatIs wi t.val q) :
    InAt w (((wi.setCell ⟨G, j * 3, none⟩ (.bool t.s)).setCell ⟨G, j * 3 + 1, none⟩ (.slice t.a1 t.n1 t.c1)).setCell ⟨G, j * 3 + 2, none⟩ (.slice t.a2 t.n2 t.c2)) G gx (us.set j t) (l.set j q) tx qx := by
  refine ⟨h.sums.set j hj t q hr, ?_, h.rx.rowed h.sums.row _ _ _ _ _ _, h.ne⟩
  rw [Below.heap_setCell _ _ _ _ h.ne, Below.heap_setCell _ _ _ _ h.ne, Below.heap_setCell _ _ _ _ h.ne]
  exact h.bx

theorem set_RS {l : List Rat} {K k0 : Nat} {q : Rat} {a b : Nat} (h : ∀ k, k < K → RS l[k]! a) (hl : l.length = K) (hq : RS q b) (hab : a ≤ b) : ∀ k, k < K → RS (l.set k0 q)[k]! b := fun k hk => by
  by_cases e : k0 = k
  · subst e
    have e1 : (l.set k0 q)[k0]! = q := by simp [show k0 < l.length by omega]
    rw [e1]; exact hq
  · have e1 : (l.set k0 q)[k]! = l[k]! := by simp [e]
    rw [e1]; exact (h k hk).mono hab

set_option maxHeartbeats 8000000 in
set_option maxRecDepth 100000 in
set_option linter.unusedSimpArgs false in
theorem both_any (va vb : Value) (qa qb : List Rat) (J : Nat) (w : World) (ha : LawIs w va qa) (hb : LawIs w vb qb) (hqa : ∀ j, j < qa.length → RS qa[j]! J) (hqb : ∀ j, j < qb.length → RS qb[j]! J) (hJ : 1000000 * (J + 1) ≤ KK)
    (ca : chk qa = 0) (cb : chk qb = 0) (hlim : tlen qa qa.length + tlen qb qb.length ≤ 102) :
    Calls Tryd.prog 9 #[va, vb] w fun e w' => ∃ v, e = .returned (.tuple #[v, .nilIface]) ∧ LawIs w' v (conv qa qb (tlen qb qb.length) (tlen qa qa.length + tlen qb qb.length - 1) (tlen qa qa.length)) ∧ Below w.heap.size w w' := by
  obtain ⟨a1, a2, -, -⟩ := chk_zero ca
  obtain ⟨b1, b2, -, -⟩ := chk_zero cb
  have HCA : ∀ w', Below w.heap.size w w' → Calls Tryd.prog 35 #[va] w' fun e w2 => e = .returned .nilIface ∧ Below w.heap.size w w2 := fun w' h =>
    (check_any va qa J w' (ha.below h) hqa (by have := Nat.mul_le_mul_right (J + 1) a2; omega)).mono (by rintro e w2 ⟨rfl, h2⟩; exact ⟨by rw [ca]; rfl, below_step h h2⟩)
  have HCB : ∀ w', Below w.heap.size w w' → Calls Tryd.prog 35 #[vb] w' fun e w2 => e = .returned .nilIface ∧ Below w.heap.size w w2 := fun w' h =>
    (check_any vb qb J w' (hb.below h) hqb (by have := Nat.mul_le_mul_right (J + 1) b2; omega)).mono (by rintro e w2 ⟨rfl, h2⟩; exact ⟨by rw [cb]; rfl, below_step h h2⟩)
  have GA := hide HCA
  have GB := hide HCB
  have HA := hide ha
  have HB := hide hb
  obtain ⟨x, cx, rfl, x1, x2, hx3⟩ := ha
  obtain ⟨y, cy, rfl, y1, y2, hy3⟩ := hb
  have hta := tlen_pos qa a1
  have htb := tlen_pos qb b1
  obtain ⟨bA, oA, rfl, hAlt, hAcs⟩ := hx3 a1
  obtain ⟨bB, oB, rfl, hBlt, hBcs⟩ := hy3 b1
  have HAC := hide hAcs
  have HBC := hide hBcs
  clear hx3 hy3 hAcs hBcs
  have TA : ∀ w', Below w.heap.size w w' → Calls Tryd.prog 36 #[.slice (some ⟨bA, oA, none⟩) qa.length cx] w' fun e w2 => e = .returned (.slice (some ⟨bA, oA, none⟩) (tlen qa qa.length) cx) ∧ Below w.heap.size w w2 := fun w' h =>
    (trimmedL_any _ cx qa w' ((unhide HA).below h) a1).mono (by rintro e w2 ⟨rfl, h2⟩; exact ⟨rfl, below_step h h2⟩)
  have TB : ∀ w', Below w.heap.size w w' → Calls Tryd.prog 36 #[.slice (some ⟨bB, oB, none⟩) qb.length cy] w' fun e w2 => e = .returned (.slice (some ⟨bB, oB, none⟩) (tlen qb qb.length) cy) ∧ Below w.heap.size w w2 := fun w' h =>
    (trimmedL_any _ cy qb w' ((unhide HB).below h) b1).mono (by rintro e w2 ⟨rfl, h2⟩; exact ⟨rfl, below_step h h2⟩)
  have HTA := hide TA
  have HTB := hide TB
  have HQA := hide hqa
  have HQB := hide hqb
  have HR := hide (Below.refl w.heap.size w)
  clear HCA HCB TA TB hqa hqb a1 b1
  obtain ⟨m, hm⟩ : ∃ m, tlen qa qa.length = m := ⟨_, rfl⟩
  obtain ⟨n, hn⟩ : ∃ m, tlen qb qb.length = m := ⟨_, rfl⟩
  have la := tlen_le qa qa.length
  have lb := tlen_le qb qb.length
  rw [hm] at la hta hlim HTA
  rw [hn] at lb htb hlim HTB
  obtain ⟨K, hK⟩ : ∃ K, m + n - 1 = K := ⟨_, rfl⟩
  rw [hm, hn, hK]
  clear hm hn ca cb
  go_enter Tryd.func9, Tryd.ntmps9
  go_wp2_with fail
  refine (unhide GA _ (unhide HR)).mono ?_
  rintro e w1 ⟨rfl, hb1⟩
  go_wp2_with fail
  refine (unhide GB _ hb1).mono ?_
  rintro e w2 ⟨rfl, hb2⟩
  go_wp2_with fail
  refine (unhide HTA _ hb2).mono ?_
  rintro e w3 ⟨rfl, hb3⟩
  go_wp2_with fail
  refine (unhide HTB _ hb3).mono ?_
  rintro e w4 ⟨rfl, hb4⟩
  have hmn : decide ((102 : Int) < (m : Int) + (n : Int)) = false := decide_eq_false (by omega)
  have hKi : ((m : Int) + (n : Int) - 1).toNat = K := by omega
  have qmk := make_tri ((m : Int) + (n : Int) - 1) (by omega) (by omega) w4
  rw [hKi] at qmk
  have HS0 := hide (SumsAt.start w w4 K hb4)
  have hGl : w.heap.size ≤ w4.heap.size := hb4.size
  obtain ⟨W4, hW4⟩ : ∃ W, w4.alloc (.cells (tcells (List.replicate K zTri)).toArray 36) = W := ⟨_, rfl⟩
  obtain ⟨G, hG⟩ : ∃ G, w4.heap.size = G := ⟨_, rfl⟩
  rw [hW4, hG] at qmk HS0
  have hKm : K ≤ 201 := by omega
  clear hb1 hb2 hb3 hb4 hW4 hG hKi GA GB HTA HTB HR hGl
  go_wp2_with fail
  go_loopw [43] (fun vi wr => ∃ (i : Nat) (us : List Tri), vi = .int .i64 i ∧ i ≤ m ∧ SumsAt w wr G us (conv qa qb n K i) ∧ us.length = K ∧ ∀ k, k < K → RS (conv qa qb n K i)[k]! ((i * n) * (2 * J + 1) + 1)) (fun vi _ => m - (intOf vi).toNat)
  case atStart => exact ⟨0, List.replicate K zTri, rfl, Nat.zero_le _, unhide HS0, List.length_replicate, fun k hk => by
    have e : (conv qa qb n K 0)[k]! = 0 := by show (List.replicate K (0 : Rat))[k]! = 0; simp [hk]
    rw [e]; exact RS.zero.mono (by omega)⟩
  case round =>
    obtain ⟨i, us, rfl, hi, T, hus, hrs⟩ := hrel
    clear HS0 qmk
    by_cases hlt : i < m
    · obtain ⟨sA, p1, p2, i1, j1, i2, j2, k0, k1, k2, r⟩ := unhide HAC i (by omega)
      obtain ⟨tx, rfl, rfl, rfl, rfl, rfl, rfl, rfl⟩ : ∃ t : Tri, sA = t.s ∧ p1 = t.a1 ∧ p2 = t.a2 ∧ i1 = t.n1 ∧ j1 = t.c1 ∧ i2 = t.n2 ∧ j2 = t.c2 := ⟨⟨sA, p1, p2, i1, j1, i2, j2⟩, rfl, rfl, rfl, rfl, rfl, rfl, rfl⟩
      rw [← T.bl.cell (p := ⟨bA, oA + i * 3, none⟩) hAlt] at k0
      rw [← T.bl.cell (p := ⟨bA, oA + i * 3 + 1, none⟩) hAlt] at k1
      rw [← T.bl.cell (p := ⟨bA, oA + i * 3 + 2, none⟩) hAlt] at k2
      have hGr := (Array.getElem?_eq_some_iff.1 T.row).1
      have IN0 : InAt w (wr.alloc (.cells #[.bool tx.s, .slice tx.a1 tx.n1 tx.c1, .slice tx.a2 tx.n2 tx.c2] 36)) G wr.heap.size us (conv qa qb n K i) tx qa[i]! :=
        ⟨T.keep (alloc_below wr _), heap_alloc_new wr _, (r.below T.bl).below (alloc_below wr _), by omega⟩
      obtain ⟨gx, hgx⟩ : ∃ g, wr.heap.size = g := ⟨_, rfl⟩
      obtain ⟨W5, hW5⟩ : ∃ W, wr.alloc (.cells #[.bool tx.s, .slice tx.a1 tx.n1 tx.c1, .slice tx.a2 tx.n2 tx.c2] 36) = W := ⟨_, rfl⟩
      rw [hgx, hW5] at IN0
      have HGX := hide hgx
      have HW5 := hide hW5
      have HIN0 := hide IN0
      have HRS := hide hrs
      have hi0 : (0 : Int) ≤ (i : Int) := by omega
      have hi1 : (i : Int) < (m : Int) := by omega
      have hic : i < m := hlt
      clear T r hgx hW5 IN0 hrs hGr
      go_wp2_with fail
      rw [unhide HW5, unhide HGX]
      clear k0 k1 k2
      go_loopw [50] (fun vi wr => ∃ (j : Nat) (us : List Tri), vi = .int .i64 j ∧ j ≤ n ∧ InAt w wr G gx us (rowAdd qb qa[i]! i j (conv qa qb n K i)) tx qa[i]! ∧ us.length = K ∧ ∀ k, k < K → RS (rowAdd qb qa[i]! i j (conv qa qb n K i))[k]! ((i * n + j) * (2 * J + 1) + 1)) (fun vi _ => n - (intOf vi).toNat)
      case atStart => exact ⟨0, us, rfl, Nat.zero_le _, unhide HIN0, hus, unhide HRS⟩
      case round =>
        obtain ⟨j, us', rfl, hj, T, hus', hrs'⟩ := hrel
        clear HIN0 HRS hus HW5 HGX
        by_cases hjn : j < n
        · obtain ⟨sB, p1, p2, i1, j1, i2, j2, k0, k1, k2, r⟩ := unhide HBC j (by omega)
          obtain ⟨ty, rfl, rfl, rfl, rfl, rfl, rfl, rfl⟩ : ∃ t : Tri, sB = t.s ∧ p1 = t.a1 ∧ p2 = t.a2 ∧ i1 = t.n1 ∧ j1 = t.c1 ∧ i2 = t.n2 ∧ j2 = t.c2 := ⟨⟨sB, p1, p2, i1, j1, i2, j2⟩, rfl, rfl, rfl, rfl, rfl, rfl, rfl⟩
          rw [← T.sums.bl.cell (p := ⟨bB, oB + j * 3, none⟩) hBlt] at k0
          rw [← T.sums.bl.cell (p := ⟨bB, oB + j * 3 + 1, none⟩) hBlt] at k1
          rw [← T.sums.bl.cell (p := ⟨bB, oB + j * 3 + 2, none⟩) hBlt] at k2
          have T1 := T.keep (alloc_below wr (.cells #[.bool ty.s, .slice ty.a1 ty.n1 ty.c1, .slice ty.a2 ty.n2 ty.c2] 36))
          have ry := (r.below T.sums.bl).below (alloc_below wr (.cells #[.bool ty.s, .slice ty.a1 ty.n1 ty.c1, .slice ty.a2 ty.n2 ty.c2] 36))
          have by1 : (wr.alloc (.cells #[.bool ty.s, .slice ty.a1 ty.n1 ty.c1, .slice ty.a2 ty.n2 ty.c2] 36)).heap[wr.heap.size]? = some (.cells #[.bool ty.s, .slice ty.a1 ty.n1 ty.c1, .slice ty.a2 ty.n2 ty.c2] 36) := heap_alloc_new wr _
          obtain ⟨gy, hgy⟩ : ∃ g, wr.heap.size = g := ⟨_, rfl⟩
          obtain ⟨W6, hW6⟩ : ∃ W, wr.alloc (.cells #[.bool ty.s, .slice ty.a1 ty.n1 ty.c1, .slice ty.a2 ty.n2 ty.c2] 36) = W := ⟨_, rfl⟩
          rw [hW6] at T1 ry by1
          rw [hgy] at by1
          have hij : i + j < us'.length := by omega
          obtain ⟨⟨g0, g1, g2⟩, f0, f1, f2⟩ := T1.sums.cells (i + j) hij
          have rk := T1.sums.rat (i + j) hij
          obtain ⟨tk, htk⟩ : ∃ t, us'[i + j]! = t := ⟨_, rfl⟩
          rw [htk] at g0 g1 g2 rk
          obtain ⟨l, hl⟩ : ∃ l, rowAdd qb qa[i]! i j (conv qa qb n K i) = l := ⟨_, rfl⟩
          rw [hl] at T1 hrs' rk
          have ⟨x0, x1', x2', _, _, _⟩ := box_cell T1.bx
          have ⟨y0, y1', y2', _, _, _⟩ := box_cell by1
          have rsm := RS.mul (unhide HQA i (by omega)) (unhide HQB j (by omega))
          have hst : i * n + j + 1 ≤ 10201 := by
            have h1 : i * n + j + 1 ≤ (i + 1) * n := by rw [Nat.succ_mul]; omega
            have h2 : (i + 1) * n ≤ 101 * 101 := Nat.mul_le_mul (by omega) (by omega)
            omega
          have hst2 : (i * n + j + 1) * (2 * J + 1) ≤ 10201 * (2 * J + 1) := Nat.mul_le_mul_right _ hst
          have hst3 : (i * n + j + 1) * (2 * J + 1) = (i * n + j) * (2 * J + 1) + (2 * J + 1) := Nat.succ_mul _ _
          have HML := hide (mulR_any _ _ qa[i]! qb[j]! W6.drew (T1.rx.below (Below.refl _ _).drew) (ry.below (Below.refl _ _).drew) J (unhide HQA i (by omega)) (unhide HQB j (by omega)) (by omega))
          have HRK := hide rk
          have rsk := hrs' (i + j) (by omega)
          have rsa : RS (l[i + j]! + qa[i]! * qb[j]!) ((i * n + j + 1) * (2 * J + 1) + 1) := (rsk.add rsm).mono (by omega)
          have HAD := hide (fun (w' : World) (v1 : Value) (h1 : RatIs w' tk.val l[i + j]!) (h2 : RatIs w' v1 (qa[i]! * qb[j]!)) => addR_any _ _ _ _ w' h1 h2 (10201 * (2 * J + 1) + 1 + 2 * J) (rsk.mono (by omega)) (rsm.mono (by omega)) (by omega))
          have NEWRS := hide (set_RS (k0 := i + j) hrs' (by rw [← T1.sums.len]; exact hus') rsa (by omega))
          have HTK := hide htk
          have HIJ := hide hij
          have hgyl := (Array.getElem?_eq_some_iff.1 by1).1
          have HEL : Hid (rowAdd qb qa[i]! i (j + 1) (conv qa qb n K i) = l.set (i + j) (l[i + j]! + qa[i]! * qb[j]!)) := by show _ = _; rw [← hl]; rfl
          have HT1 := hide T1
          have HHL := hide hl
          have HHGY := hide hgy
          have HHW6 := hide hW6
          have HBY := hide by1
          have hj0 : (0 : Int) ≤ (j : Int) := by omega
          have hj1 : (j : Int) < (n : Int) := by omega
          have hs0 : (0 : Int) ≤ (i : Int) + (j : Int) := by omega
          have hs1 : (i : Int) + (j : Int) < (K : Int) := by omega
          have hs2 : ((i : Int) + (j : Int)).toNat = i + j := by omega
          have hs3 : i + j < K := by omega
          have hwr : IntKind.i64.wrap ((i : Int) + (j : Int)) = (i : Int) + (j : Int) := by first | go_num | (unfold IntKind.wrap; simp [IntKind.bits, IntKind.signed]; omega)
          simp only [Tri.val] at HML HAD
          clear T T1 r ry rk rsk rsa rsm hrs' hl hgy hW6 by1 hst hst2 hst3 htk hij
          go_wp2_with fail
          rw [unhide HHW6, unhide HHGY]
          refine wp_region_till (fun w' => w'.cell? ⟨G, (i + j) * 3, none⟩ = some (.bool tk.s) ∧ w'.cell? ⟨G, (i + j) * 3 + 1, none⟩ = some (.slice tk.a1 tk.n1 tk.c1) ∧ w'.cell? ⟨G, (i + j) * 3 + 2, none⟩ = some (.slice tk.a2 tk.n2 tk.c2) ∧ w'.cell? ⟨gx, 0, none⟩ = some (.bool tx.s) ∧ w'.cell? ⟨gx, 1, none⟩ = some (.slice tx.a1 tx.n1 tx.c1) ∧ w'.cell? ⟨gx, 2, none⟩ = some (.slice tx.a2 tx.n2 tx.c2) ∧ w'.cell? ⟨gy, 0, none⟩ = some (.bool ty.s) ∧ w'.cell? ⟨gy, 1, none⟩ = some (.slice ty.a1 ty.n1 ty.c1) ∧ w'.cell? ⟨gy, 2, none⟩ = some (.slice ty.a2 ty.n2 ty.c2)) 15 (by kernel_rfl) ?_
          have hC0 : (fun w' : World => w'.cell? ⟨G, (i + j) * 3, none⟩ = some (.bool tk.s) ∧ w'.cell? ⟨G, (i + j) * 3 + 1, none⟩ = some (.slice tk.a1 tk.n1 tk.c1) ∧ w'.cell? ⟨G, (i + j) * 3 + 2, none⟩ = some (.slice tk.a2 tk.n2 tk.c2) ∧ w'.cell? ⟨gx, 0, none⟩ = some (.bool tx.s) ∧ w'.cell? ⟨gx, 1, none⟩ = some (.slice tx.a1 tx.n1 tx.c1) ∧ w'.cell? ⟨gx, 2, none⟩ = some (.slice tx.a2 tx.n2 tx.c2) ∧ w'.cell? ⟨gy, 0, none⟩ = some (.bool ty.s) ∧ w'.cell? ⟨gy, 1, none⟩ = some (.slice ty.a1 ty.n1 ty.c1) ∧ w'.cell? ⟨gy, 2, none⟩ = some (.slice ty.a2 ty.n2 ty.c2)) W6.drew := ⟨g0, g1, g2, x0, x1', x2', y0, y1', y2'⟩
          refine wpTill_pure (i := 0) (v := ?_) rfl (by kernel_rfl) (by kernel_rfl) (by kernel_rfl) (by kernel_rfl) (fun _ _ _ h => h) (Or.inl ⟨by rfl, ?_⟩) (fun _ => hC0) ?_
          rotate_left
          · intro w hSw; clear hSw; go_simp; (try with_reducible rfl)
          (try simp only [List.getElem_toArray, List.getElem_cons_succ, List.getElem_cons_zero])
          (try simp only [Act.put, List.setIfInBounds_toArray, List.set_cons_zero, List.set_cons_succ])
          refine wpTill_pure (i := 1) (v := ?_) rfl (by kernel_rfl) (by kernel_rfl) (by kernel_rfl) (by kernel_rfl) (fun _ _ _ h => h) (Or.inl ⟨by rfl, ?_⟩) (fun _ => hC0) ?_
          rotate_left
          · intro w hSw; clear hSw; go_simp; (try with_reducible rfl)
          (try simp only [List.getElem_toArray, List.getElem_cons_succ, List.getElem_cons_zero])
          (try simp only [Act.put, List.setIfInBounds_toArray, List.set_cons_zero, List.set_cons_succ])
          refine wpTill_pure (i := 2) (v := ?_) rfl (by kernel_rfl) (by kernel_rfl) (by kernel_rfl) (by kernel_rfl) (fun _ _ _ h => h) (Or.inl ⟨by rfl, ?_⟩) (fun _ => hC0) ?_
          rotate_left
          · intro w hSw; clear hSw; go_simp; (try with_reducible rfl)
          (try simp only [List.getElem_toArray, List.getElem_cons_succ, List.getElem_cons_zero])
          (try simp only [Act.put, List.setIfInBounds_toArray, List.set_cons_zero, List.set_cons_succ])
          refine wpTill_pure (i := 3) (v := ?_) rfl (by kernel_rfl) (by kernel_rfl) (by kernel_rfl) (by kernel_rfl) (fun _ _ _ h => h) (Or.inl ⟨by rfl, ?_⟩) (fun _ => hC0) ?_
          rotate_left
          · intro w hSw; clear hSw; go_simp; (try with_reducible rfl)
          (try simp only [List.getElem_toArray, List.getElem_cons_succ, List.getElem_cons_zero])
          (try simp only [Act.put, List.setIfInBounds_toArray, List.set_cons_zero, List.set_cons_succ])
          refine wpTill_pure (i := 4) (v := ?_) rfl (by kernel_rfl) (by kernel_rfl) (by kernel_rfl) (by kernel_rfl) (fun _ _ _ h => h) (Or.inl ⟨by rfl, ?_⟩) (fun _ => hC0) ?_
          rotate_left
          · intro w hSw; clear hSw; go_simp; (try with_reducible rfl)
          (try simp only [List.getElem_toArray, List.getElem_cons_succ, List.getElem_cons_zero])
          (try simp only [Act.put, List.setIfInBounds_toArray, List.set_cons_zero, List.set_cons_succ])
          refine wpTill_pure (i := 5) (v := ?_) rfl (by kernel_rfl) (by kernel_rfl) (by kernel_rfl) (by kernel_rfl) (fun _ _ _ h => h) (Or.inl ⟨by rfl, ?_⟩) (fun _ => hC0) ?_
          rotate_left
          · intro w hSw; clear hSw; go_simp; (try with_reducible rfl)
          (try simp only [List.getElem_toArray, List.getElem_cons_succ, List.getElem_cons_zero])
          (try simp only [Act.put, List.setIfInBounds_toArray, List.set_cons_zero, List.set_cons_succ])
          refine wpTill_pure (i := 6) (v := ?_) rfl (by kernel_rfl) (by kernel_rfl) (by kernel_rfl) (by kernel_rfl) (fun _ _ _ h => h) (Or.inl ⟨by rfl, ?_⟩) (fun _ => hC0) ?_
          rotate_left
          · intro w hSw; clear hSw; go_simp; (try with_reducible rfl)
          (try simp only [List.getElem_toArray, List.getElem_cons_succ, List.getElem_cons_zero])
          (try simp only [Act.put, List.setIfInBounds_toArray, List.set_cons_zero, List.set_cons_succ])
          refine wpTill_pure (i := 7) (v := ?_) rfl (by kernel_rfl) (by kernel_rfl) (by kernel_rfl) (by kernel_rfl) (fun _ _ _ h => h) (Or.inl ⟨by rfl, ?_⟩) (fun _ => hC0) ?_
          rotate_left
          · intro w hSw; clear hSw; go_simp; (try with_reducible rfl)
          (try simp only [List.getElem_toArray, List.getElem_cons_succ, List.getElem_cons_zero])
          (try simp only [Act.put, List.setIfInBounds_toArray, List.set_cons_zero, List.set_cons_succ])
          refine wpTill_pure (i := 8) (v := ?_) rfl (by kernel_rfl) (by kernel_rfl) (by kernel_rfl) (by kernel_rfl) (fun _ _ _ h => h) (Or.inl ⟨by rfl, ?_⟩) (fun _ => hC0) ?_
          rotate_left
          · intro w hSw; clear hSw; go_simp; (try with_reducible rfl)
          (try simp only [List.getElem_toArray, List.getElem_cons_succ, List.getElem_cons_zero])
          (try simp only [Act.put, List.setIfInBounds_toArray, List.set_cons_zero, List.set_cons_succ])
          refine wpTill_take (i := 9) (v := ?_) rfl (by kernel_rfl) (by kernel_rfl) (by kernel_rfl) (by kernel_rfl) (by kernel_rfl) (by kernel_rfl) (fun _ _ _ h => h) (Or.inl ⟨by rfl, ?_⟩) hC0 ?_
          rotate_left
          · intro w hSw; (try dsimp only at hSw); obtain ⟨z0, z1, z2, z3, z4, z5, z6, z7, z8⟩ := hSw; go_simp; (try with_reducible rfl)
          (try simp only [List.getElem_toArray, List.getElem_cons_succ, List.getElem_cons_zero])
          (try simp only [Act.put, List.setIfInBounds_toArray, List.set_cons_zero, List.set_cons_succ])
          refine wpTill_take (i := 10) (v := ?_) rfl (by kernel_rfl) (by kernel_rfl) (by kernel_rfl) (by kernel_rfl) (by kernel_rfl) (by kernel_rfl) (fun _ _ _ h => h) (Or.inl ⟨by rfl, ?_⟩) hC0 ?_
          rotate_left
          · intro w hSw; (try dsimp only at hSw); obtain ⟨z0, z1, z2, z3, z4, z5, z6, z7, z8⟩ := hSw; go_simp; (try with_reducible rfl)
          (try simp only [List.getElem_toArray, List.getElem_cons_succ, List.getElem_cons_zero])
          (try simp only [Act.put, List.setIfInBounds_toArray, List.set_cons_zero, List.set_cons_succ])
          refine wpTill_take (i := 11) (v := ?_) rfl (by kernel_rfl) (by kernel_rfl) (by kernel_rfl) (by kernel_rfl) (by kernel_rfl) (by kernel_rfl) (fun _ _ _ h => h) (Or.inl ⟨by rfl, ?_⟩) hC0 ?_
          rotate_left
          · intro w hSw; (try dsimp only at hSw); obtain ⟨z0, z1, z2, z3, z4, z5, z6, z7, z8⟩ := hSw; go_simp; (try with_reducible rfl)
          (try simp only [List.getElem_toArray, List.getElem_cons_succ, List.getElem_cons_zero])
          (try simp only [Act.put, List.setIfInBounds_toArray, List.set_cons_zero, List.set_cons_succ])
          refine wpTill_one (k := 12) (by kernel_rfl) rfl (fun K hK => ?_)
          (try simp only [List.getElem_toArray, List.getElem_cons_succ, List.getElem_cons_zero])
          go_simp
          refine (unhide HML).mono ?_
          rintro e w7 ⟨v7, rfl, hv7, hb7⟩
          have T7 := (unhide HT1).keep (below_step (Below.refl _ _).drew hb7)
          have by7 : w7.heap[gy]? = some (.cells #[.bool ty.s, .slice ty.a1 ty.n1 ty.c1, .slice ty.a2 ty.n2 ty.c2] 36) := by rw [hb7.block gy hgyl]; exact unhide HBY
          obtain ⟨⟨g0', g1', g2'⟩, f0', f1', f2'⟩ := T7.sums.cells (i + j) (unhide HIJ)
          rw [unhide HTK] at g0' g1' g2'
          have rk7 := T7.sums.rat (i + j) (unhide HIJ)
          rw [unhide HTK] at rk7
          have ⟨u0, u1, u2, _, _, _⟩ := box_cell T7.bx
          have ⟨v0, v1, v2, _, _, _⟩ := box_cell by7
          have hC7 : (fun w' : World => w'.cell? ⟨G, (i + j) * 3, none⟩ = some (.bool tk.s) ∧ w'.cell? ⟨G, (i + j) * 3 + 1, none⟩ = some (.slice tk.a1 tk.n1 tk.c1) ∧ w'.cell? ⟨G, (i + j) * 3 + 2, none⟩ = some (.slice tk.a2 tk.n2 tk.c2) ∧ w'.cell? ⟨gx, 0, none⟩ = some (.bool tx.s) ∧ w'.cell? ⟨gx, 1, none⟩ = some (.slice tx.a1 tx.n1 tx.c1) ∧ w'.cell? ⟨gx, 2, none⟩ = some (.slice tx.a2 tx.n2 tx.c2) ∧ w'.cell? ⟨gy, 0, none⟩ = some (.bool ty.s) ∧ w'.cell? ⟨gy, 1, none⟩ = some (.slice ty.a1 ty.n1 ty.c1) ∧ w'.cell? ⟨gy, 2, none⟩ = some (.slice ty.a2 ty.n2 ty.c2)) w7 := ⟨g0', g1', g2', u0, u1, u2, v0, v1, v2⟩
          obtain ⟨t7, rfl, hr7⟩ := tri_of hv7
          have HAD7 := hide (unhide HAD w7 _ rk7 hr7)
          have HT7 := hide T7
          have hgy7 := (Array.getElem?_eq_some_iff.1 by7).1
          have HBY7 := hide by7
          simp only [Tri.val] at HAD7 ⊢
          clear T7 hv7 hr7 rk7 by7 HML g0 g1 g2 f0 f1 f2 x0 x1' x2' y0 y1' y2' HAD
          refine hK.out _ _ (fun _ => hC7) ?_
          clear hK K
          (try simp only [Act.put, List.setIfInBounds_toArray, List.set_cons_zero, List.set_cons_succ])
          refine wpTill_one (k := 13) (by kernel_rfl) rfl (fun K hK => ?_)
          (try simp only [List.getElem_toArray, List.getElem_cons_succ, List.getElem_cons_zero])
          go_simp
          refine (unhide HAD7).mono ?_
          rintro e w8 ⟨v8, rfl, hv8, hb8⟩
          have T8 := (unhide HT7).keep hb8
          have by8 : w8.heap[gy]? = some (.cells #[.bool ty.s, .slice ty.a1 ty.n1 ty.c1, .slice ty.a2 ty.n2 ty.c2] 36) := by rw [hb8.block gy hgy7]; exact unhide HBY7
          obtain ⟨⟨o0, o1, o2⟩, q0, q1, q2⟩ := T8.sums.cells (i + j) (unhide HIJ)
          rw [unhide HTK] at o0 o1 o2
          have ⟨n0, n1, n2, _, _, _⟩ := box_cell T8.bx
          have ⟨l0, l1, l2, _, _, _⟩ := box_cell by8
          have hC8 : (fun w' : World => w'.cell? ⟨G, (i + j) * 3, none⟩ = some (.bool tk.s) ∧ w'.cell? ⟨G, (i + j) * 3 + 1, none⟩ = some (.slice tk.a1 tk.n1 tk.c1) ∧ w'.cell? ⟨G, (i + j) * 3 + 2, none⟩ = some (.slice tk.a2 tk.n2 tk.c2) ∧ w'.cell? ⟨gx, 0, none⟩ = some (.bool tx.s) ∧ w'.cell? ⟨gx, 1, none⟩ = some (.slice tx.a1 tx.n1 tx.c1) ∧ w'.cell? ⟨gx, 2, none⟩ = some (.slice tx.a2 tx.n2 tx.c2) ∧ w'.cell? ⟨gy, 0, none⟩ = some (.bool ty.s) ∧ w'.cell? ⟨gy, 1, none⟩ = some (.slice ty.a1 ty.n1 ty.c1) ∧ w'.cell? ⟨gy, 2, none⟩ = some (.slice ty.a2 ty.n2 ty.c2)) w8 := ⟨o0, o1, o2, n0, n1, n2, l0, l1, l2⟩
          obtain ⟨t8, rfl, hr8⟩ := tri_of hv8
          have FIN := hide (T8.set (i + j) (unhide HIJ) t8 _ hr8)
          simp only [Tri.val]
          clear T8 hv8 hr8 by8 HAD7 g0' g1' g2' f0' f1' f2' u0 u1 u2 v0 v1 v2 hC7 hC0
          refine hK.out _ _ (fun _ => hC8) ?_
          clear hK K
          (try simp only [Act.put, List.setIfInBounds_toArray, List.set_cons_zero, List.set_cons_succ])
          refine wpTill_one (k := 14) (by kernel_rfl) rfl (fun K hK => ?_)
          (try simp only [List.getElem_toArray, List.getElem_cons_succ, List.getElem_cons_zero])
          go_simp
          refine hK.out _ _ (fun _ => hC8) ?_
          clear hK K
          (try simp only [Act.put, List.setIfInBounds_toArray, List.set_cons_zero, List.set_cons_succ])
          refine wpTill_one (k := 15) (by kernel_rfl) rfl (fun K hK => ?_)
          (try simp only [List.getElem_toArray, List.getElem_cons_succ, List.getElem_cons_zero])
          go_simp
          refine hK.out _ _ (fun h => absurd (h.symm.trans (by kernel_rfl)) Bool.false_ne_true) ?_
          clear hK K
          (try simp only [Act.put, List.setIfInBounds_toArray, List.set_cons_zero, List.set_cons_succ])
          refine wpTill_done (by kernel_rfl) ?_ _
          clear hC8 o0 o1 o2 q0 q1 q2 n0 n1 n2 l0 l1 l2 HT1 HT7 hb7 hb8 HBY HBY7
          go_wp2_with fail
          exact ⟨⟨j + 1, us'.set (i + j) t8, by go_num, hjn, by rw [unhide HEL]; exact unhide FIN, by rw [List.length_set]; exact hus', by rw [unhide HEL]; exact unhide NEWRS⟩, by simp [intOf]; omega⟩
        · obtain rfl : j = n := by omega
          have HTS := hide T.sums
          have HRS2 := hide hrs'
          clear T hrs' hjn
          go_wp2_with fail
          exact ⟨⟨i + 1, us', by go_num, hlt, unhide HTS, hus', by rw [Nat.succ_mul]; exact unhide HRS2⟩, by simp [intOf]; omega⟩
    · obtain rfl : i = m := by omega
      have L := T.law (by omega)
      rw [hus] at L
      have HL := hide L
      have HB4 := hide T.bl
      clear T hrs L HAC HBC HQA HQB
      go_wp2
      (try simp only [Exit.inBlock, Exit.then])
      go_ret2
      exact ⟨_, rfl, unhide HL, unhide HB4⟩
end Go.Proofs.YtdicbnchkfclaaaDoor
