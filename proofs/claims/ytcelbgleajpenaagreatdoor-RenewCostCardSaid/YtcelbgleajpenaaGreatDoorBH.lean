/- The checker's whole numbers as text. -/
import Derived.Test.YtcelbgleajpenaaGreatDoorB13
import Derived.Lib.SlBytesRow
import Derived.Laws.OwnMore
import Derived.Test.YtcelbgleajpenaaGreatDoorA13
import Derived.Test.YtcelbgleajpenaaGreatDoorA10
import Derived.Test.YtcelbgleajpenaaGreatDoorT1
namespace Go.Proofs.YtcelbgleajpenaaGreatDoor
open Go.RowKit Go.Sort Go.Shelf

theorem Tryz.infoU8 : (Tryz.prog.info? 5).map (fun i => (i.zero, i.size, i.bytes)) = some (some (.int .u8 0), 1, 1) := by kernel_rfl

set_option maxHeartbeats 16000000 in
set_option maxRecDepth 100000 in
set_option linter.unusedSimpArgs false in
theorem smallF_any (va : Value) (A d : Int) (w : World) (ha : HNat w va A) (sa : SmH A) (hd : 1 ≤ d) (hd2 : d < 4294967296) :
  Calls Tryz.prog 176 #[va, .int .u32 d] w fun e w' => ∃ v, e = .returned (.tuple #[v, .int .u32 (A % d)]) ∧ HNat w' v (A / d) ∧ Below w.heap.size w w' ∧ ∃ k c, v = .slice (some ⟨w.heap.size, 0, none⟩) k c := by
 obtain ⟨a, n, c, rfl, hl, h1, h2, h3⟩ := ha
 have hn6 : n ≤ 1000000 := sa.len hl
 have qmk := make_halves n (by omega) w
 have S0 := HOwn.start w n
 obtain ⟨W0, hW0⟩ : ∃ W, w.alloc (.cells (halves (List.replicate n 0)).toArray 175) = W := ⟨_, rfl⟩
 obtain ⟨g, hg⟩ : ∃ g, w.heap.size = g := ⟨_, rfl⟩
 rw [hW0, hg] at qmk S0
 have HS0 := hide S0
 have H3 := hide h3
 have HLA := hide hl
 have e4 : IntKind.i64.wrap ((n : Int) - 1) = (n : Int) - 1 := by rw [IntKind.wrap_i64]; omega
 have ud : IntKind.u64.wrap d = d := by rw [IntKind.wrap_u64]; omega
 have dz : (d == 0) = false := by simp; omega
 have HGE := hide hg
 clear S0 h3 hl hg hW0 sa
 go_enter Tryz.func176, Tryz.ntmps176
 go_wp2_with fail
 clear qmk
 go_loopw [7, 8] (fun vr vi wr => ∃ (m : Nat) (r : Int) (xs : List Int), vr = .int .u64 r ∧ vi = .int .i64 ((m : Int) - 1) ∧ m ≤ n ∧ 0 ≤ r ∧ r < d ∧ HOwn w wr g xs ∧ xs.length = n ∧ (∀ k, k < xs.length → Wh.W32 xs[k]!) ∧ lv xs n * d + Wh.pw m * r + Wh.vl (Wh.dig A) m = A ∧ ∀ k, k < m → xs[k]! = 0) (fun _ vi _ => (intOf vi + 1).toNat)
 case atStart => exact ⟨n, 0, _, rfl, rfl, Nat.le_refl _, by omega, by omega, unhide HS0, by simp, fun k hk => by simp at hk; simp [hk]; exact ⟨by decide, by decide⟩, by unfold lv; rw [Wh.vl_zeros _ _ (fun j hj => by simp [hj]), Wh.vl_dig_all (unhide HLA).1 (unhide HLA).2.1]; simp, fun k hk => by simp [hk]⟩
 case round =>
  obtain ⟨m, r, xs, rfl, rfl, hm, r0, r1, own, hxl, hw32, hval, hzero⟩ := hrel
  have HOW := hide own
  have HXL := hide hxl
  have HW := hide hw32
  have HVA := hide hval
  have HZE := hide hzero
  clear hxl hw32 hval hzero HS0
  by_cases hm0 : m = 0
  ·subst hm0
   have hrow := (unhide HOW).hrow (by have := unhide HXL; omega)
   rw [unhide HXL] at hrow
   have hA : lv xs n * d + r = A := by have h := unhide HVA; simpa [Wh.vl, Wh.pw] using h
   have hq : lv xs n = A / d ∧ r = A % d := by
    rw [← hA]
    constructor
    ·rw [Int.add_comm, Int.add_mul_ediv_right _ _ (by omega), Int.ediv_eq_zero_of_lt r0 r1]; omega
    ·rw [Int.add_comm, Int.add_mul_emod_self_right, Int.emod_eq_of_lt r0 r1]
   have HTR := hide (trim32_any _ n n _ wr hrow (fun j hj => unhide HW j (by have := unhide HXL; omega)))
   have HHN : Hid (∀ k, k ≤ n → Wh.Len (Wh.vl (fun j => xs[j]!) n) k → HNat wr (.slice (some ⟨g, 0, none⟩) k n) (A / d)) := fun k hk hl => by
    have h := hNat_trim hrow (fun j hj => unhide HW j (by have := unhide HXL; omega)) hk hl
    have hv := hq.1
    unfold lv at hv
    rw [hv] at h
    exact h
   have HBB := hide own.bl
   have ur : IntKind.u32.wrap r = r := by rw [IntKind.wrap_u32]; omega
   have HR := hide hq.2
   clear hrow hA hq own
   go_wp2_with fail
   (try simp only [Exit.inBlock, Exit.then])
   go_wp2_with fail
   refine (unhide HTR).mono ?_
   rintro e w9 ⟨k, rfl, hk, hl9, rfl⟩
   have HV9 := hide (unhide HHN k hk hl9)
   clear hl9
   go_wp2
   exact bodyPost_ret (v := .tuple #[.slice (some ⟨g, 0, none⟩) k n, .int .u32 r]) (by simp [results, Tryz.results176, go_sem]) rfl ⟨_, by rw [← unhide HR], unhide HV9, unhide HBB, _, _, by rw [unhide HGE]⟩
  ·obtain ⟨k, hk⟩ : ∃ k, m = k + 1 := ⟨m - 1, by omega⟩
   subst hk
   have f0 : (0 : Int) ≤ (k : Int) := by omega
   have f1 : (k : Int) < (n : Int) := by omega
   have f2 : ((k + 1 : Nat) : Int) - 1 = (k : Int) := by omega
   have f3 : IntKind.i64.wrap ((k : Int) - 1) = (k : Int) - 1 := by rw [IntKind.wrap_i64]; omega
   rw [f2]
   obtain ⟨b, o, rfl, hbl, hca⟩ := unhide H3 (by omega)
   have ca := hca k (by omega)
   rw [← own.bl.cell (p := ⟨b, o + k, none⟩) hbl] at ca
   have hkl : k < xs.length := by have := unhide HXL; omega
   have ⟨cr2, fr2⟩ := own.cell hkl
   obtain ⟨x, hx⟩ : ∃ x, Wh.dig A k = x := ⟨_, rfl⟩
   have wx : Wh.W32 x := by rw [← hx]; exact Wh.dig_w _ _
   rw [hx] at ca
   have ux : IntKind.u64.wrap x = x := by rw [IntKind.wrap_u64]; have := wx.1; have := wx.2; omega
   have us : IntKind.u64.wrap (r * 4294967296) = r * 4294967296 := by rw [IntKind.wrap_u64]; omega
   have uo := or32 r0 (by omega) wx
   obtain ⟨t, ht⟩ : ∃ t, r * 4294967296 + x = t := ⟨_, rfl⟩
   rw [ht] at uo
   have t0 : 0 ≤ t := by have := wx.1; omega
   have t1 : t < d * 4294967296 := by have := wx.2; omega
   have td0 : 0 ≤ t / d := Int.ediv_nonneg t0 (by omega)
   have td1 : t / d < 4294967296 := Int.ediv_lt_of_lt_mul (by omega) (by rw [Int.mul_comm]; exact t1)
   have tm0 : 0 ≤ t % d := Int.emod_nonneg _ (by omega)
   have tm1 : t % d < d := Int.emod_lt_of_pos _ (by omega)
   have tde := Int.mul_ediv_add_emod t d
   obtain ⟨u, hu⟩ : ∃ u, t / d = u := ⟨_, rfl⟩
   obtain ⟨v, hv⟩ : ∃ v, t % d = v := ⟨_, rfl⟩
   rw [hu] at td0 td1 tde
   rw [hv] at tm0 tm1 tde
   have utd : t.tdiv d = u := by rw [Int.tdiv_eq_ediv_of_nonneg t0]; exact hu
   have uu : IntKind.u64.wrap u = u := by rw [IntKind.wrap_u64]; omega
   have um : u % 4294967296 = u := by omega
   have uvv : t % d = v := hv
   have own3 := own.set k u
   obtain ⟨W5, hW5⟩ : ∃ W, wr.setCell ⟨g, k, none⟩ (.int .u32 u) = W := ⟨_, rfl⟩
   rw [hW5] at own3
   have HO3 := hide own3
   have HX := hide hx
   have HT := hide ht
   have HTDE := hide tde
   have HKL := hide hkl
   have HTT := hide (⟨td0, td1, tm0, tm1⟩ : 0 ≤ u ∧ u < 4294967296 ∧ 0 ≤ v ∧ v < d)
   clear own own3 hca hx ht wx tde hkl td0 td1 tm0 tm1 t1 hm0 f2
   go_wp2_with fail
   have hkl := unhide HKL
   have tt := unhide HTT
   refine ⟨⟨k, v, xs.set k u, by rw [hv], rfl, by omega, tt.2.2.1, tt.2.2.2, unhide HO3, by rw [List.length_set]; exact unhide HXL, w_set (unhide HW) ⟨tt.1, tt.2.1⟩, ?_, fun j hj => by rw [get_set (by omega)]; exact unhide HZE j (by omega)⟩, by simp [intOf] <;> omega⟩
   have hval := unhide HVA
   rw [Wh.pw_succ, Wh.vl_succ, unhide HX] at hval
   rw [lv_set _ hkl (by have := unhide HXL; omega), unhide HZE k (by omega)]
   exact small_step hval (unhide HT) (unhide HTDE)

theorem wpList_conv {P : Program} {w : World} {ops : Array Oper} {rest : List Oper} {o : Oper} {a : Act} {Q : Exit → Act → World → Prop} (hgd : o.guard = none) (s d : TypeId) (x : Operand) (ho : o.op = .convert s d x) (u v : Value) (hx : a.eval x = u) (hr : (convert s d u).run P w = .ok v w) (h : wpList P ops Q rest (a.put o.dst v) w) : wpList P ops Q (o :: rest) a w :=
 wpList_plain hgd fun K hK => by
  unfold Oper.wp execOp
  simp only [ho, Sem.run_bind, Sem.run_pure, Result.andThen_ok, hx, hr]
  exact hK _ _ h
def bi (ds : List UInt8) : List Value := ds.map fun b => .int .u8 (b.toNat : Int)
def OwnB (w : World) (B : Nat) (v : Value) (ds : List UInt8) : Prop := w.ownsRow B 5 1 v ds.length (bi ds)
theorem OwnB.keep {w w' : World} {B : Nat} {v : Value} {xs : List UInt8} (h : OwnB w B v xs) (hb : Below w.heap.size w w') : OwnB w' B v xs := by
 refine ⟨h.1, ?_⟩
 rcases h.2 with h | ⟨g, cap, cur, hv, hg, hh, h1⟩
 ·exact Or.inl h
 ·exact Or.inr ⟨g, cap, cur, hv, hg, by rw [hb.block g (Array.getElem?_eq_some_iff.1 hh).1]; exact hh, h1⟩
theorem news_u8 (w : World) (x : Int) (T : TypeId) : ∀ j u, [Value.int .u8 x][j]? = some u → (w.alloc (.cells #[.int .u8 x] T)).cell? ((⟨w.heap.size, 0, none⟩ : Addr).add j) = some u :=
 World.news_of_block (cs := #[.int .u8 x]) (t := T) (fr := (0, 0)) (heap_alloc_new w _)
theorem one_u8 (x : Int) : ∀ u ∈ [Value.int .u8 x], u.oneCell' = true := by
 intro u hu
 simp only [List.mem_cons, List.not_mem_nil, or_false] at hu
 rw [hu]; rfl
theorem OwnB.push {w' : World} {B g cap : Nat} {xs : List UInt8} {x : UInt8} (own : w'.ownsRow B 5 1 (.slice (some ⟨g, 0, none⟩) (xs.length + 1) cap) (xs.length + 1) (bi xs ++ [.int .u8 (x.toNat : Int)])) : OwnB w' B (.slice (some ⟨g, 0, none⟩) (xs.length + 1) cap) (xs ++ [x]) := by
 unfold OwnB
 rw [show (xs ++ [x]).length = xs.length + 1 by simp, show bi (xs ++ [x]) = bi xs ++ [.int .u8 (x.toNat : Int)] by simp [bi]]
 exact own
theorem HNat.grown {w w' : World} {g k c : Nat} {N : Int} {row : Option Nat} (h : HNat w (.slice (some ⟨g, 0, none⟩) k c) N) (hg : w.grownBy w' row) (hne : some g ≠ row) (hsz : w.heap.size ≤ w'.heap.size) : HNat w' (.slice (some ⟨g, 0, none⟩) k c) N := by
 obtain ⟨a, n, c', e, hl, h1, h2, h3⟩ := h
 injection e with e1 e2 e3
 subst e1 e2 e3
 refine ⟨_, _, _, rfl, hl, h1, h2, fun hn => ?_⟩
 obtain ⟨b, o, e, hlt, hc⟩ := h3 hn
 injection e with e
 injection e with e4 e5
 subst e4 e5
 exact ⟨_, _, rfl, by omega, fun j hj => by rw [hg.cell_far ⟨g, 0 + j, none⟩ hlt hne]; exact hc j hj⟩
theorem bsize (w : World) (o : Obj) : (w.alloc o).heap.size = w.heap.size + 1 := by simp
theorem smh_le {a b : Int} (h : a ≤ b) (k : SmH b) : SmH a := Int.lt_of_le_of_lt h k
theorem dec_zero : Lib.decDigits 0 = [48] := Dd.dec_lt (by decide)
theorem OwnB.slen {w : World} {B : Nat} {v : Value} {ds : List UInt8} (h : OwnB w B v ds) : Go.Proofs.YtcelbgleajpenaaGreatDoor.slen v = ds.length := by
 rcases h.2 with ⟨rfl, h0⟩ | ⟨g, cap, cur, rfl, _⟩
 ·exact h0.symm
 ·rfl
theorem bi_set (ys : List UInt8) (i : Nat) (b : UInt8) : bi (ys.set i b) = (bi ys).set i (.int .u8 (b.toNat : Int)) := by simp [bi, List.map_set]
theorem bcell {w : World} {B g cap m : Nat} {ys : List UInt8} (own : w.ownsRow B 5 1 (.slice (some ⟨g, 0, none⟩) m cap) m (bi ys)) (hl : ys.length = m) {j : Nat} (hj : j < m) : w.cell? ⟨g, j, none⟩ = some (.int .u8 ((ys[j]!).toNat : Int)) := by
 rw [own.cellAt j (by omega)]
 subst hl
 simp [bi, hj]
theorem bconv {w : World} {B g cap m : Nat} {ys : List UInt8} (own : w.ownsRow B 5 1 (.slice (some ⟨g, 0, none⟩) m cap) m (bi ys)) (hl : ys.length = m) : (convert 168 9 (.slice (some ⟨g, 0, none⟩) m cap)).run Tryz.prog w = .ok (.string ⟨ys.toArray⟩) w := by
 have hs : (⟨ys.toArray⟩ : ByteArray).size = m := by rw [← hl]; rfl
 have h := Lib.run_convert_whole (P := Tryz.prog) w 168 5 9 Tryz.underlying168 Tryz.underlying5 Tryz.underlying9 g 0 ⟨ys.toArray⟩ (fun i hi => by
  rw [Nat.zero_add, bcell own hl (by omega)]
  have hi' : i < ys.length := by omega
  simp [hi', ByteArray.getElem_eq_getElem_data]) cap
 rw [hs] at h
 exact h
def Rv (zs : List UInt8) (m i : Nat) (ys : List UInt8) : Prop := ∀ k, k < m → ys[k]! = if k < i ∨ m ≤ k + i then zs[m - 1 - k]! else zs[k]!
theorem Rv.start (zs : List UInt8) (m : Nat) : Rv zs m 0 zs := fun k hk => by rw [if_neg (by omega)]
theorem Rv.step {zs ys : List UInt8} {m i j : Nat} (h : Rv zs m i ys) (hl : ys.length = m) (hij : i + j + 1 = m) (hlt : i < j) : Rv zs m (i + 1) ((ys.set i ys[j]!).set j ys[i]!) := fun k hk => by
 have hi := h i (by omega)
 have hj := h j (by omega)
 have hk' := h k hk
 rw [if_neg (by omega)] at hi hj
 by_cases h1 : k = j
 ·subst h1
  rw [if_pos (by omega), show m - 1 - k = i by omega, ← hi]
  simp [hl, hk]
 ·by_cases h2 : k = i
  ·subst h2
   rw [if_pos (by omega), show m - 1 - k = j by omega, ← hj]
   have e : ((ys.set k ys[j]!).set j ys[k]!)[k]! = (ys.set k ys[j]!)[k]! := by simp [List.getElem?_set, Ne.symm h1]
   rw [e]
   simp [hl, hk]
  ·have e : ((ys.set i ys[j]!).set j ys[i]!)[k]! = ys[k]! := by simp [Ne.symm h1, Ne.symm h2]
   rw [e, hk']
   by_cases h3 : k < i ∨ m ≤ k + i
   ·rw [if_pos h3, if_pos (by omega)]
   ·rw [if_neg h3, if_neg (by omega)]
theorem Rv.done {zs ys : List UInt8} {m i j : Nat} (h : Rv zs m i ys) (hz : zs.length = m) (hl : ys.length = m) (hij : i + j + 1 = m) (hlt : ¬ i < j) : ys = zs.reverse := by
 apply List.ext_getElem (by simp [hz, hl])
 intro k h1 h2
 have hk := h k (by omega)
 have e1 : ys[k]! = ys[k] := by simp [h1]
 rw [← e1, hk, List.getElem_reverse]
 have h3 : zs.length - 1 - k < zs.length := by omega
 by_cases hc : k < i ∨ m ≤ k + i
 ·rw [if_pos hc, ← hz]; simp [h3]
 ·have e2 : zs[k]! = zs[zs.length - 1 - k]! := congrArg (fun t => zs[t]!) (by omega)
  rw [if_neg hc, e2]; simp [h3]

def Left (A M : Nat) (ds : List UInt8) : Prop := Lib.decDigits A = (if M = 0 then [] else Lib.decDigits M) ++ ds.reverse
theorem Left.step {A M : Nat} {ds : List UInt8} (h : Left A M ds) (hM : 0 < M) : Left A (M / 10) (ds ++ [UInt8.ofNat (48 + M % 10)]) := by
 unfold Left at *
 rw [if_neg (by omega)] at h
 rw [h, List.reverse_append]
 by_cases h10 : M < 10
 ·rw [if_pos (by omega), Dd.dec_lt h10, Nat.mod_eq_of_lt h10]; rfl
 ·rw [if_neg (by omega), Dd.dec_ge h10]; simp
theorem Left.lt {A M : Nat} {ds : List UInt8} (h : Left A M ds) (hM : 0 < M) : ds.length < (Lib.decDigits A).length := by
 unfold Left at h
 rw [if_neg (by omega)] at h
 rw [h]
 have := List.length_pos_iff.2 (Dd.dec_ne M)
 simp
 omega

set_option maxHeartbeats 16000000 in
set_option maxRecDepth 100000 in
set_option linter.unusedSimpArgs false in
theorem itext_any (b o : Nat) (N : Int) (w : World) (x : BInt w b o N) (sn : SmH (N.natAbs : Int)) (hL : (Lib.decDigits N.natAbs).length ≤ 100000000) :
  Calls Tryz.prog 164 #[.pointer (some ⟨b, o, none⟩), .int .i64 10] w fun e w' => e = .returned (.string ⟨((if N < 0 then [45] else []) ++ Lib.decDigits N.natAbs).toArray⟩) ∧ Below w.heap.size w w' := by
 obtain ⟨a, n, c, ea, hn⟩ := x.ab
 by_cases hN : N = 0
 ·subst hN
  have h0 : n = 0 := len_z (w := w) (a := a) (c := c) (by simpa using hn)
  subst h0
  clear hn hL sn x
  go_enter Tryz.func164, Tryz.ntmps164
  go_wp2
  go_ret
  exact ⟨by rw [dec_zero]; rfl, Below.refl _ _⟩
 obtain ⟨R, hR⟩ : ∃ R, (if N < 0 then [45] else []) ++ Lib.decDigits N.natAbs = R := ⟨_, rfl⟩
 rw [hR]
 have HR9 := hide hR
 clear hR
 have hz : ((n : Int) == 0) = false := len_nz hn (by omega)
 obtain ⟨ti, hi, hz0, hz1, hz2⟩ := info_parts Tryz.infoU8
 have HI := hide hi
 have HZ := hide hz0
 obtain ⟨A, hA⟩ : ∃ A, N.natAbs = A := ⟨_, rfl⟩
 rw [hA] at hn sn hL
 have HA := hide hA
 have HTW := hide (twin_any (.slice a n c) (A : Int) w hn sn)
 have HX := hide x
 have HSN := hide sn
 obtain ⟨L, hLL⟩ : ∃ L, (Lib.decDigits A).length = L := ⟨_, rfl⟩
 rw [hLL] at hL
 have HL8 := hide hL
 clear hL
 have HLL := hide hLL
 have HA0 : Hid (0 < A) := by show _ < _; omega
 clear hi hz0 x hn sn hA hLL
 go_enter Tryz.func164, Tryz.ntmps164
 go_wp2_with fail
 refine (unhide HTW).mono ?_
 rintro e w1 ⟨a1, n1, c1, rfl, hv1, hb1⟩
 have HV1 := hide hv1
 have HB1 := hide hb1
 clear hv1 hb1 HTW ea hz hN
 go_wp2_with fail
 go_loopw [5, 6, 7] (fun vb va _ wr => ∃ (M : Nat) (ds : List UInt8), HNat wr va (M : Int) ∧ M ≤ A ∧ OwnB wr w.heap.size vb ds ∧ Left A M ds ∧ Below w.heap.size w wr) (fun vb _ _ _ => L - slen vb)
 case atStart => exact ⟨A, [], unhide HV1, Nat.le_refl _, World.ownsRow_nil _ _ _ _, by unfold Left; rw [if_neg (by have := unhide HA0; omega)]; simp, unhide HB1⟩
 case round =>
  obtain ⟨M, ds, hM, hMA, hO, hLf, hb⟩ := hrel
  obtain ⟨a2, n2, c2, rfl, hl2, hrw2⟩ := id hM
  clear hrw2
  by_cases hM0 : M = 0
  ·have hn2 : n2 = 0 := by rw [hM0] at hM; exact len_z (by simpa using hM)
   subst hn2
   have hD : Lib.decDigits A = ds.reverse := by have h := hLf; unfold Left at h; rw [if_pos hM0] at h; simpa using h
   have hd1 : 1 ≤ ds.length := by
    have h := List.length_pos_iff.2 (Dd.dec_ne A)
    rw [hD, List.length_reverse] at h
    exact h
   have hd2 : ds.length ≤ 100000000 := by
    have h1 := unhide HLL
    have h2 := unhide HL8
    rw [hD, List.length_reverse] at h1
    omega
   obtain ⟨g0, cap0, rfl, hgw0, _⟩ := hO.form (by omega)
   have es := ((unhide HX).below hb).sg
   have HDD := hide hD
   clear hM hl2 hLf hM0 hMA hD
   by_cases hng : N < 0
   ·rw [decide_eq_true hng] at es
    have HO2 := hide (hO.keep (abelow wr (.cells #[.int .u8 45] 5)))
    have HB := hide hb
    have HQ63 : Hid (ds.length + 1 ≤ maxLen) := by show _ ≤ _; unfold maxLen; omega
    have HQ8 : Hid ((ds.length + 1) * 1 ≤ 140737488355328) := by show _ ≤ _; omega
    have HQB := hide (bstep hb (abelow wr (.cells #[.int .u8 45] 5))).size
    have HD12 := hide (And.intro hd1 hd2)
    have HNG := hide hng
    clear hO hb hd1 hd2 hng hgw0
    go_wp2_with (at_builtin; go_loud (refine wpList_append_lies _ rfl _ _ _ rfl w.heap.size 5 ti (.int .u8 0) 1 1 Tryz.underlying168 (unhide HI) (unhide HZ) hz1 hz2 rfl (by decide) _ ds.length (bi ds) rfl (unhide HO2) ⟨wr.heap.size, 0, none⟩ 1 1 [.int .u8 45] rfl rfl (news_u8 wr _ _) (one_u8 _) (by decide) (unhide HQ63) (unhide HQ8) (unhide HQB) (wr.heap.size + 1) (bsize _ _) ?_; intro g cap w5 own5 grow5 hat5 hlt5; have PUSH : Hid (OwnB w5 w.heap.size (.slice (some ⟨g, 0, none⟩) (ds.length + 1) cap) (ds ++ [45])) := (by show OwnB _ _ _ _; exact OwnB.push own5); have PB := hide (Below.grown (bstep (unhide HB) (abelow wr (.cells #[.int .u8 45] 5))) grow5 (unhide HQB) (fun k hk => ((unhide HO2).lt k hk).1)); clear own5 grow5 hat5 hlt5; have e4 : IntKind.i64.wrap (((ds.length + 1 : Nat) : Int) - 1) = ((ds.length : Nat) : Int) := (by rw [IntKind.wrap_i64]; have := unhide HD12; omega)))
    obtain ⟨zs, hzs⟩ : ∃ zs, ds ++ [45] = zs := ⟨_, rfl⟩
    have hzl : zs.length = ds.length + 1 := by rw [← hzs]; simp
    have hOz : w5.ownsRow w.heap.size 5 1 (.slice (some ⟨g, 0, none⟩) (ds.length + 1) cap) (ds.length + 1) (bi zs) := by
     have h := unhide PUSH
     rw [hzs] at h
     unfold OwnB at h
     rw [hzl] at h
     exact h
    obtain ⟨m, hm⟩ : ∃ m, ds.length + 1 = m := ⟨_, rfl⟩
    rw [hm] at hOz hzl
    rw [hm]
    have HM := hide hzl
    have HOZ := hide hOz
    have HBZ := hide (unhide PB)
    have HMB : Hid (m ≤ 100000001) := by show _ ≤ _; have := unhide HD12; omega
    have HGW : Hid (w.heap.size ≤ g) := (hOz.lt g rfl).1
    have HZS := hide hzs
    have HMD := hide hm
    clear hm hOz hzl hzs PUSH PB
    go_loopw [8, 9, 10] (fun vi vj _ wz => ∃ (i j : Nat) (ys : List UInt8), vi = .int .i64 (i : Int) ∧ vj = .int .i64 (j : Int) ∧ i + j + 1 = m ∧ i ≤ j + 1 ∧ wz.ownsRow w.heap.size 5 1 (.slice (some ⟨g, 0, none⟩) m cap) m (bi ys) ∧ ys.length = m ∧ Rv zs m i ys ∧ Below w.heap.size w wz) (fun vi vj _ _ => (intOf vj + 1 - intOf vi).toNat)
    case atStart => exact ⟨0, ds.length, zs, rfl, congrArg (Value.int .i64) (by unfold wrap64; have := unhide HD12; omega), by have := unhide HMD; omega, by omega, unhide HOZ, unhide HM, Rv.start _ _, unhide HBZ⟩
    case round =>
     obtain ⟨i, j, ys, rfl, rfl, hij, hle, own, hyl, hrv, hby⟩ := hrel
     have HRV := hide hrv
     have HYL := hide hyl
     have HBY := hide hby
     clear hrv hyl hby HOZ HBZ
     by_cases hlt : i < j
     ·have i1 : i < j := hlt
      have i2 : i < m := by omega
      have i3 : j < m := by omega
      have i4 : IntKind.i64.wrap ((i : Int) + 1) = ((i + 1 : Nat) : Int) := by rw [IntKind.wrap_i64]; have := unhide HMB; omega
      have i5 : IntKind.i64.wrap ((j : Int) - 1) = ((j - 1 : Nat) : Int) := by rw [IntKind.wrap_i64]; have := unhide HMB; omega
      have ci := bcell own (unhide HYL) (show i < m by omega)
      have cj := bcell own (unhide HYL) (show j < m by omega)
      have fi := own.frozenAt i
      have fj := own.frozenAt j
      obtain ⟨p, hp'⟩ : ∃ p, ys[i]! = p := ⟨_, rfl⟩
      obtain ⟨q, hq'⟩ : ∃ q, ys[j]! = q := ⟨_, rfl⟩
      rw [hp'] at ci
      rw [hq'] at cj
      have ⟨own1, gr1⟩ := own.stored i (.int .u8 (q.toNat : Int))
      have cj1 : (wr.setCell ⟨g, i, none⟩ (.int .u8 (q.toNat : Int))).cell? ⟨g, j, none⟩ = some (.int .u8 (q.toNat : Int)) := by rw [World.cell?_setCell_other _ _ _ _ (fun e => by injection e with _ e; omega)]; exact cj
      have ⟨own2, gr2⟩ := own1.stored j (.int .u8 (p.toNat : Int))
      have HO2' := hide own2
      have HB2' := hide (((unhide HBY).setCell (p := ⟨g, i, none⟩) (unhide HGW) (.int .u8 (q.toNat : Int))).setCell (p := ⟨g, j, none⟩) (unhide HGW) (.int .u8 (p.toNat : Int)))
      have HIJ := hide (And.intro hij (And.intro hle hlt))
      have HPQ := hide (And.intro hp' hq')
      clear own own1 own2 gr1 gr2 hij hle hp' hq'
      go_wp2_with fail
      have hij := unhide HIJ
      exact ⟨⟨i + 1, j - 1, (ys.set i ys[j]!).set j ys[i]!, rfl, rfl, by omega, by omega, by rw [(unhide HPQ).1, (unhide HPQ).2, bi_set, bi_set]; exact unhide HO2', by simp; exact unhide HYL, (unhide HRV).step (unhide HYL) hij.1 hij.2.2, unhide HB2'⟩, by simp only [intOf]; omega⟩
     ·have i1 : ¬ i < j := hlt
      have hys : ys = zs.reverse := (unhide HRV).done (unhide HM) (unhide HYL) hij hlt
      have hcv := bconv own (unhide HYL)
      have HYS := hide hys
      have HCV := hide hcv
      clear hys own hij hle hlt hcv
      go_upto_region 21 with fail
      refine wp_region_lit ?_
      refine wpList_plain rfl fun K1 hK1 => ?_
      go_simp
      refine hK1 _ _ ?_
      clear hK1 K1
      (try simp only [Act.put, List.setIfInBounds_toArray, List.set_cons_zero, List.set_cons_succ])
      refine wpList_conv rfl 168 9 (.tmp 81) rfl _ _ rfl (unhide HCV) ?_
      (try simp only [Act.put, List.setIfInBounds_toArray, List.set_cons_zero, List.set_cons_succ])
      go_wp2
      go_ret
      exact ⟨by rw [unhide HYS]; rw [← unhide HR9, if_pos (unhide HNG), unhide HA, unhide HDD, ← unhide HZS, List.reverse_append]; rfl, unhide HBY⟩
   ·rw [decide_eq_false hng] at es
    obtain ⟨zs, hzs⟩ : ∃ zs, ds = zs := ⟨_, rfl⟩
    subst hzs
    obtain ⟨g, hg⟩ : ∃ g, g0 = g := ⟨_, rfl⟩
    obtain ⟨cap, hcap⟩ : ∃ c, cap0 = c := ⟨_, rfl⟩
    obtain ⟨zs, hzs⟩ : ∃ zs, ds = zs := ⟨_, rfl⟩
    subst hg hcap
    rw [hzs] at hO hd1 hd2 HDD
    rw [hzs]
    have hOz : wr.ownsRow w.heap.size 5 1 (.slice (some ⟨g0, 0, none⟩) zs.length cap0) zs.length (bi zs) := hO
    have hz1m := hd1
    have hz2m := hd2
    have hbz := hb
    have HGW := hide hgw0
    have HNG := hide hng
    clear hO hb hd1 hd2 hgw0 hzs hng
    obtain ⟨m, hm⟩ : ∃ m, zs.length = m := ⟨_, rfl⟩
    rw [hm] at hOz hz1m hz2m
    try rw [hm]
    have HM := hide hm
    have HOZ := hide hOz
    have HBZ := hide hbz
    have HM1 := hide hz1m
    have HMB := hide hz2m
    have e4 : IntKind.i64.wrap ((m : Int) - 1) = ((m - 1 : Nat) : Int) := by rw [IntKind.wrap_i64]; omega
    clear hm hOz hbz hz1m hz2m
    go_wp2_with fail
    (try simp only [Exit.inBlock, Exit.then])
    go_wp2_with fail
    go_loopw [8, 9, 10] (fun vi vj _ wz => ∃ (i j : Nat) (ys : List UInt8), vi = .int .i64 (i : Int) ∧ vj = .int .i64 (j : Int) ∧ i + j + 1 = m ∧ i ≤ j + 1 ∧ wz.ownsRow w.heap.size 5 1 (.slice (some ⟨g0, 0, none⟩) m cap0) m (bi ys) ∧ ys.length = m ∧ Rv zs m i ys ∧ Below w.heap.size w wz) (fun vi vj _ _ => (intOf vj + 1 - intOf vi).toNat)
    case atStart => exact ⟨0, m - 1, zs, rfl, rfl, by have := unhide HM1; omega, by omega, unhide HOZ, unhide HM, Rv.start _ _, unhide HBZ⟩
    case round =>
     obtain ⟨i, j, ys, rfl, rfl, hij, hle, own, hyl, hrv, hby⟩ := hrel
     have HRV := hide hrv
     have HYL := hide hyl
     have HBY := hide hby
     clear hrv hyl hby HOZ HBZ
     by_cases hlt : i < j
     ·have i1 : i < j := hlt
      have i2 : i < m := by omega
      have i3 : j < m := by omega
      have i4 : IntKind.i64.wrap ((i : Int) + 1) = ((i + 1 : Nat) : Int) := by rw [IntKind.wrap_i64]; have := unhide HMB; omega
      have i5 : IntKind.i64.wrap ((j : Int) - 1) = ((j - 1 : Nat) : Int) := by rw [IntKind.wrap_i64]; have := unhide HMB; omega
      have ci := bcell own (unhide HYL) (show i < m by omega)
      have cj := bcell own (unhide HYL) (show j < m by omega)
      have fi := own.frozenAt i
      have fj := own.frozenAt j
      obtain ⟨p, hp'⟩ : ∃ p, ys[i]! = p := ⟨_, rfl⟩
      obtain ⟨q, hq'⟩ : ∃ q, ys[j]! = q := ⟨_, rfl⟩
      rw [hp'] at ci
      rw [hq'] at cj
      have ⟨own1, gr1⟩ := own.stored i (.int .u8 (q.toNat : Int))
      have cj1 : (wr.setCell ⟨g0, i, none⟩ (.int .u8 (q.toNat : Int))).cell? ⟨g0, j, none⟩ = some (.int .u8 (q.toNat : Int)) := by rw [World.cell?_setCell_other _ _ _ _ (fun e => by injection e with _ e; omega)]; exact cj
      have ⟨own2, gr2⟩ := own1.stored j (.int .u8 (p.toNat : Int))
      have HO2' := hide own2
      have HB2' := hide (((unhide HBY).setCell (p := ⟨g0, i, none⟩) (unhide HGW) (.int .u8 (q.toNat : Int))).setCell (p := ⟨g0, j, none⟩) (unhide HGW) (.int .u8 (p.toNat : Int)))
      have HIJ := hide (And.intro hij (And.intro hle hlt))
      have HPQ := hide (And.intro hp' hq')
      clear own own1 own2 gr1 gr2 hij hle hp' hq'
      go_wp2_with fail
      have hij := unhide HIJ
      exact ⟨⟨i + 1, j - 1, (ys.set i ys[j]!).set j ys[i]!, rfl, rfl, by omega, by omega, by rw [(unhide HPQ).1, (unhide HPQ).2, bi_set, bi_set]; exact unhide HO2', by simp; exact unhide HYL, (unhide HRV).step (unhide HYL) hij.1 hij.2.2, unhide HB2'⟩, by simp only [intOf]; omega⟩
     ·have i1 : ¬ i < j := hlt
      have hys : ys = zs.reverse := (unhide HRV).done (unhide HM) (unhide HYL) hij hlt
      have hcv := bconv own (unhide HYL)
      have HYS := hide hys
      have HCV := hide hcv
      clear hys own hij hle hlt hcv
      go_upto_region 21 with fail
      refine wp_region_lit ?_
      refine wpList_plain rfl fun K1 hK1 => ?_
      go_simp
      refine hK1 _ _ ?_
      clear hK1 K1
      (try simp only [Act.put, List.setIfInBounds_toArray, List.set_cons_zero, List.set_cons_succ])
      refine wpList_conv rfl 168 9 (.tmp 81) rfl _ _ rfl (unhide HCV) ?_
      (try simp only [Act.put, List.setIfInBounds_toArray, List.set_cons_zero, List.set_cons_succ])
      go_wp2
      go_ret
      exact ⟨by rw [unhide HYS]; rw [← unhide HR9, if_neg (show ¬ N < 0 by have := unhide HNG; omega), unhide HA, unhide HDD]; rfl, unhide HBY⟩
  have hlt := hLf.lt (by omega)
  rw [unhide HLL] at hlt
  have hp : 0 < n2 := by
   rcases Nat.eq_zero_or_pos n2 with h0 | h0
   ·subst h0; have := hl2.zero; omega
   ·exact h0
  have HSM := hide (smallF_any (.slice a2 n2 c2) (M : Int) 10 _ hM (smh_le (Int.ofNat_le.2 hMA) (unhide HSN)) (by decide) (by decide))
  have HO := hide hO
  have HB := hide hb
  have HLF := hide hLf
  have HLT := hide hlt
  have HMA := hide hMA
  have HM0 := hide hM0
  clear hM hl2 hO hb hLf hlt hMA hM0
  go_wp2_with fail
  refine (unhide HSM).mono ?_
  rintro e w2 ⟨v2, rfl, hv2, hb2, k2, c3, rfl⟩
  obtain ⟨r, hr⟩ : ∃ r : Nat, M % 10 = r := ⟨_, rfl⟩
  have hr10 : r < 10 := by omega
  have er : (M : Int) % 10 = (r : Int) := by omega
  rw [er]
  have e1 : (r : Int) < 10 := by omega
  have e2 : IntKind.u32.wrap (48 + (r : Int)) = 48 + (r : Int) := by rw [IntKind.wrap_u32]; omega
  have e3 : IntKind.u8.wrap (48 + (r : Int)) = 48 + (r : Int) := by rw [IntKind.wrap_u8]; omega
  have eb : (48 + (r : Int)) = ((UInt8.ofNat (48 + r)).toNat : Int) := by rw [Dd.toNat_dig r hr10]; omega
  have HEB := hide eb
  have HR := hide hr
  have HO2 := hide (((unhide HO).keep hb2).keep (abelow w2 (.cells #[.int .u8 (48 + (r : Int))] 5)))
  have HB2 := hide (bstep (unhide HB) hb2)
  have HV2 := hide (hv2.below (abelow w2 (.cells #[.int .u8 (48 + (r : Int))] 5)))
  have HNE : Hid (∀ k, _ = some k → k < wr.heap.size) := fun k hk => ((unhide HO).lt k hk).2
  have HQ63 : Hid (ds.length + 1 ≤ maxLen) := by show _ ≤ _; have := unhide HLT; have := unhide HL8; unfold maxLen; omega
  have HQ8 : Hid ((ds.length + 1) * 1 ≤ 140737488355328) := by show _ ≤ _; have := unhide HLT; have := unhide HL8; omega
  have HQB := hide (bstep (unhide HB2) (abelow w2 (.cells #[.int .u8 (48 + (r : Int))] 5))).size
  have HSL := hide (unhide HO).slen
  clear hv2 hb2 eb hr hr10 er HSM HO
  go_wp2_with (at_builtin; go_loud (refine wpList_append_lies _ rfl _ _ _ rfl w.heap.size 5 ti (.int .u8 0) 1 1 Tryz.underlying168 (unhide HI) (unhide HZ) hz1 hz2 rfl (by decide) _ ds.length (bi ds) rfl (unhide HO2) ⟨w2.heap.size, 0, none⟩ 1 1 [.int .u8 (48 + (r : Int))] rfl rfl (news_u8 w2 _ _) (one_u8 _) (by decide) (unhide HQ63) (unhide HQ8) (unhide HQB) (w2.heap.size + 1) (bsize _ _) ?_; intro g5 cap5 w5 own5 grow5 hat5 hlt5; have PUSH : Hid (OwnB w5 w.heap.size (.slice (some ⟨g5, 0, none⟩) (ds.length + 1) cap5) (ds ++ [UInt8.ofNat (48 + r)])) := (by show OwnB _ _ _ _; exact OwnB.push (by rw [← unhide HEB]; exact own5)); have PB := hide (Below.grown (bstep (unhide HB2) (abelow w2 (.cells #[.int .u8 (48 + (r : Int))] 5))) grow5 (unhide HQB) (fun k hk => ((unhide HO2).lt k hk).1)); have PV := hide ((unhide HV2).grown grow5 (fun e => by have := unhide HNE _ e.symm; omega) grow5.size); clear own5 grow5 hat5 hlt5))
  exact ⟨⟨M / 10, ds ++ [UInt8.ofNat (48 + M % 10)], by have h := unhide PV; rw [show (M : Int) / 10 = ((M / 10 : Nat) : Int) by omega] at h; exact h, by have := unhide HMA; omega, by rw [unhide HR]; exact unhide PUSH, (unhide HLF).step (by have := unhide HM0; omega), unhide PB⟩, by have h1 := unhide HSL; have h2 := unhide HLT; rw [h1]; show L - (ds.length + 1) < _; omega⟩
end Go.Proofs.YtcelbgleajpenaaGreatDoor
/- The checker's fractions as text. -/
namespace Go.Proofs.YtcelbgleajpenaaGreatDoor
open Go.RowKit Go.Sort Go.Shelf

def itx (N : Int) : List UInt8 := (if N < 0 then [45] else []) ++ Lib.decDigits N.natAbs
def Txt (N : Int) : Prop := SmH (N.natAbs : Int) ∧ (Lib.decDigits N.natAbs).length ≤ 100000000

set_option maxHeartbeats 4000000 in
set_option maxRecDepth 100000 in
set_option linter.unusedSimpArgs false in
theorem istring_any (b o : Nat) (N : Int) (w : World) (x : BInt w b o N) (t : Txt N) :
  Calls Tryz.prog 135 #[.pointer (some ⟨b, o, none⟩)] w fun e w' => e = .returned (.string ⟨(itx N).toArray⟩) ∧ Below w.heap.size w w' := by
 have ht := itext_any b o N w x t.1 t.2
 unfold itx
 obtain ⟨R, hR⟩ : ∃ R, (if N < 0 then [45] else []) ++ Lib.decDigits N.natAbs = R := ⟨_, rfl⟩
 rw [hR] at ht ⊢
 have HT := hide ht
 clear ht hR x t
 go_enter Tryz.func135, Tryz.ntmps135
 go_wp2_with fail
 refine (unhide HT).mono ?_
 rintro e w1 ⟨rfl, hb⟩
 go_wp2
 go_ret
 exact ⟨rfl, hb⟩

set_option maxHeartbeats 4000000 in
set_option maxRecDepth 100000 in
set_option linter.unusedSimpArgs false in
theorem rstring_any (b o : Nat) (q : Rat) (w : World) (x : BRat w b o q) (t1 : Txt q.num) (t2 : Txt (q.den : Int)) :
  Calls Tryz.prog 136 #[.pointer (some ⟨b, o, none⟩)] w fun e w' => e = .returned (.string ⟨(itx q.num ++ 47 :: itx (q.den : Int)).toArray⟩) ∧ Below w.heap.size w w' := by
 have h1 := istring_any b o q.num w x.1 t1
 have h2 : ∀ W, Below w.heap.size w W → Calls Tryz.prog 135 #[.pointer (some ⟨b, o + 2, none⟩)] W fun e w' => e = .returned (.string ⟨(itx (q.den : Int)).toArray⟩) ∧ Below W.heap.size W w' := fun W hW => istring_any b (o + 2) (q.den : Int) W (x.2.below hW) t2
 have z1 : (itx q.num).length ≤ 100000001 := by have := t1.2; unfold itx; split <;> simp <;> omega
 have z2 : (itx (q.den : Int)).length ≤ 100000001 := by have := t2.2; rw [Int.natAbs_natCast] at this; unfold itx; split <;> simp <;> omega
 obtain ⟨tN, htN⟩ : ∃ t, (⟨(itx q.num).toArray⟩ : ByteArray) = t := ⟨_, rfl⟩
 obtain ⟨tD, htD⟩ : ∃ t, (⟨(itx (q.den : Int)).toArray⟩ : ByteArray) = t := ⟨_, rfl⟩
 rw [htN] at h1
 rw [htD] at h2
 have sN : tN.size ≤ 100000001 := by rw [← htN]; exact z1
 have sD : tD.size ≤ 100000001 := by rw [← htD]; exact z2
 have e47 : (⟨#[47]⟩ : ByteArray).size = 1 := rfl
 obtain ⟨u1, hu1⟩ : ∃ t, tN ++ (⟨#[47]⟩ : ByteArray) = t := ⟨_, rfl⟩
 have s1 : u1.size ≤ 100000002 := by rw [← hu1, ByteArray.size_append, e47]; omega
 obtain ⟨u2, hu2⟩ : ∃ t, u1 ++ tD = t := ⟨_, rfl⟩
 have r1 : ∀ w, (Op.stringOp .add tN ⟨#[47]⟩).run Tryz.prog w = .ok (.string u1) w := fun w => by rw [run_string_add_sum _ _ _ (by rw [e47]; omega), hu1]
 have r2 : ∀ w, (Op.stringOp .add u1 tD).run Tryz.prog w = .ok (.string u2) w := fun w => by rw [run_string_add_sum _ _ _ (by omega), hu2]
 have hl : (⟨(itx q.num ++ 47 :: itx (q.den : Int)).toArray⟩ : ByteArray) = u2 := by
  rw [← hu2, ← hu1, ← htN, ← htD]
  apply ByteArray.ext
  apply Array.toList_inj.1
  simp
 rw [hl]
 clear hl hu1 hu2 htN htD s1 sN sD e47 z1 z2
 have H1 := hide h1
 have H2 := hide h2
 have HX := hide x
 clear h1 h2 t1 t2 x
 go_enter Tryz.func136, Tryz.ntmps136
 go_wp2_with fail
 refine (unhide H1).mono ?_
 rintro e w1 ⟨rfl, hb1⟩
 have HB1 := hide hb1
 have HD := hide (den_any b o q w1 ((unhide HX).below hb1))
 clear hb1 H1
 go_wp2_with fail
 refine (unhide HD).mono ?_
 rintro e w2 ⟨rfl, hw⟩
 have hw := hw.symm
 subst hw
 go_wp2_with fail
 refine (unhide H2 _ (unhide HB1)).mono ?_
 rintro e w3 ⟨rfl, hb3⟩
 have HB3 := hide (bstep (unhide HB1) hb3)
 clear hb3 H2 HD
 go_wp2
 go_ret
 exact ⟨rfl, unhide HB3⟩

set_option maxHeartbeats 4000000 in
set_option maxRecDepth 100000 in
set_option linter.unusedSimpArgs false in
theorem ratString_any (b o : Nat) (q : Rat) (w : World) (x : BRat w b o q) (t1 : Txt q.num) (t2 : Txt (q.den : Int)) :
  Calls Tryz.prog 94 #[.pointer (some ⟨b, o, none⟩)] w fun e w' => e = .returned (.string ⟨(qtext q).toArray⟩) ∧ Below w.heap.size w w' := by
 have hq : qtext q = itx q.num ++ (if q.den = 1 then [] else 47 :: itx (q.den : Int)) := by
  unfold qtext upperText itx
  rw [if_neg (show ¬ ((q.den : Int) < 0) by omega), Int.natAbs_natCast, List.nil_append]
 have h0 := isInt_any b o q w x
 have h1 : ∀ W, Below w.heap.size w W → Calls Tryz.prog 135 #[.pointer (some ⟨b, o, none⟩)] W fun e w' => e = .returned (.string ⟨(itx q.num).toArray⟩) ∧ Below W.heap.size W w' := fun W hW => istring_any b o q.num W (x.1.below hW) t1
 have h2 : ∀ W, Below w.heap.size w W → Calls Tryz.prog 136 #[.pointer (some ⟨b, o, none⟩)] W fun e w' => e = .returned (.string ⟨(itx q.num ++ 47 :: itx (q.den : Int)).toArray⟩) ∧ Below W.heap.size W w' := fun W hW => rstring_any b o q W (x.below hW) t1 t2
 by_cases hd : q.den = 1
 ·rw [if_pos hd, List.append_nil] at hq
  rw [decide_eq_true hd] at h0
  rw [hq]
  obtain ⟨R1, hR1⟩ : ∃ R, itx q.num = R := ⟨_, rfl⟩
  rw [hR1] at h1 ⊢
  have H0 := hide h0
  have H1 := hide h1
  clear h0 h1 h2 hR1 hq hd t1 t2 x
  go_enter Tryz.func94, Tryz.ntmps94
  go_wp2_with fail
  refine (unhide H0).mono ?_
  rintro e w1 ⟨rfl, hb1⟩
  have HB1 := hide hb1
  clear hb1 H0
  go_wp2_with fail
  refine (unhide H1 _ (unhide HB1)).mono ?_
  rintro e w2 ⟨rfl, hb2⟩
  have HB2 := hide (bstep (unhide HB1) hb2)
  clear hb2 H1
  go_wp2
  go_ret
  exact ⟨rfl, unhide HB2⟩
 ·rw [if_neg hd] at hq
  rw [decide_eq_false hd] at h0
  rw [hq]
  obtain ⟨R1, hR1⟩ : ∃ R, itx q.num ++ 47 :: itx (q.den : Int) = R := ⟨_, rfl⟩
  rw [hR1] at h2 ⊢
  have H0 := hide h0
  have H1 := hide h2
  clear h0 h1 h2 hR1 hq hd t1 t2 x
  go_enter Tryz.func94, Tryz.ntmps94
  go_wp2_with fail
  refine (unhide H0).mono ?_
  rintro e w1 ⟨rfl, hb1⟩
  have HB1 := hide hb1
  clear hb1 H0
  go_wp2_with fail
  refine (unhide H1 _ (unhide HB1)).mono ?_
  rintro e w2 ⟨rfl, hb2⟩
  have HB2 := hide (bstep (unhide HB1) hb2)
  clear hb2 H1
  go_wp2
  go_ret
  exact ⟨rfl, unhide HB2⟩

end Go.Proofs.YtcelbgleajpenaaGreatDoor
/- The checker asks whether a fraction is the one it wants, or an error. -/
namespace Go.Proofs.YtcelbgleajpenaaGreatDoor
open Go.RowKit Go.Sort Go.Shelf

set_option maxHeartbeats 4000000 in
set_option maxRecDepth 100000 in
set_option linter.unusedSimpArgs false in
theorem one_err (v : Value) (bw : Nat) (k : Int) (hk : k ≠ 0) (w : World) (h : RatIs w v 0) (htab : Tab w) (hg : ErrTy w) :
  Calls Tryz.prog 16 #[v, .iface 27 (.int .i64 k), .pointer (some ⟨bw, 0, none⟩), .int .i64 k] w fun e w' => e = .returned (.bool true) ∧ Below w.heap.size w w' := by
 obtain ⟨q, hq⟩ : ∃ q : Rat, 0 = q := ⟨_, rfl⟩
 rw [hq] at h
 have h' := h
 obtain ⟨ov, un, rfl, ho, hu⟩ := h'
 obtain ⟨y1, y2, y3, rfl, _, _⟩ := ho
 obtain ⟨u1, u2, u3, rfl, _, _⟩ := hu
 have bA := abelow w (.cells #[.bool (decide (q.num < 0)), .slice y1 y2 y3, .slice u1 u2 u3] 37)
 have hL := tell_errno k _ (hg.below bA)
 have hT : ∀ W, Below w.heap.size w W → Calls Tryz.prog 49 #[.agg #[.bool (decide (q.num < 0)), .slice y1 y2 y3, .slice u1 u2 u3]] W fun e w' => e = .returned (.string ⟨#[48]⟩) ∧ Below W.heap.size W w' := fun W hW => (textR_small _ q W (h.below hW) (by rw [← hq]; decide) (by rw [← hq]; decide) (tab_below htab hW)).mono (by
  rintro e w' ⟨rfl, hb⟩
  refine ⟨?_, hb⟩
  rw [← hq, show qtext 0 = [48] by unfold qtext upperText; simp [dec_zero]])
 have hC : ∀ W, Below (w.alloc (.cells #[.bool (decide (q.num < 0)), .slice y1 y2 y3, .slice u1 u2 u3] 37)).heap.size (w.alloc (.cells #[.bool (decide (q.num < 0)), .slice y1 y2 y3, .slice u1 u2 u3] 37)) W → W.cell? ⟨w.heap.size, 0, none⟩ = some (.bool (decide (q.num < 0))) ∧ W.cell? ⟨w.heap.size, 1, none⟩ = some (.slice y1 y2 y3) ∧ W.cell? ⟨w.heap.size, 2, none⟩ = some (.slice u1 u2 u3) := fun W hW => by
  have hlt : w.heap.size < (w.alloc (.cells #[.bool (decide (q.num < 0)), .slice y1 y2 y3, .slice u1 u2 u3] 37)).heap.size := by simp
  refine ⟨?_, ?_, ?_⟩
  ·rw [hW.cell (p := ⟨w.heap.size, 0, none⟩) hlt]; simp
  ·rw [hW.cell (p := ⟨w.heap.size, 1, none⟩) hlt]; simp
  ·rw [hW.cell (p := ⟨w.heap.size, 2, none⟩) hlt]; simp
 obtain ⟨s, hs⟩ : ∃ s, decide (q.num < 0) = s := ⟨_, rfl⟩
 rw [hs] at hT hL bA hC ⊢
 have HT := hide hT
 have HL := hide hL
 have HB := hide bA
 have HC := hide hC
 have kz : (k != 0) = true := by simpa using hk
 clear h hT hL bA hs htab hg hC hk hq
 go_enter Tryz.func16, Tryz.ntmps16
 go_wp2_with fail
 refine (unhide HL).mono ?_
 rintro e w1 ⟨rfl, hb1⟩
 have ⟨z0, z1, z2⟩ := unhide HC _ hb1
 have HB1 := hide (bstep (unhide HB) hb1)
 clear hb1 HL HB HC
 go_wp2_with fail
 refine (unhide HT _ (unhide HB1)).mono ?_
 rintro e w2 ⟨rfl, hb2⟩
 have HB2 := hide (bstep (unhide HB1) hb2)
 clear hb2 HT HB1
 go_wp2
 go_ret
 exact ⟨rfl, unhide HB2⟩
end Go.Proofs.YtcelbgleajpenaaGreatDoor
