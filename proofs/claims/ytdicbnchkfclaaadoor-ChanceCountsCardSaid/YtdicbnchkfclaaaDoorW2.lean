/- Numbers by words: added in place, added, taken away, multiplied. -/
import Derived.Test.YtdicbnchkfclaaaDoorW1
import Derived.Test.YtdicbnchkfclaaaDoorShelf
import Derived.Sort.Row
import Derived.Deep.LoopGhost
import Derived.CellFam
namespace Go.Proofs.YtdicbnchkfclaaaDoor
open Go.RowKit Go.Sort Go.Shelf

theorem add64 (x y c : Int) (hx : 0 ≤ x) (hy : 0 ≤ y) (hc0 : 0 ≤ c) (hc : c ≤ 1) (w : World) : (callFunc 94 #[.int .u64 x, .int .u64 y, .int .u64 c]).run Tryd.prog w =
    .ok (.value (.tuple #[.int .u64 ((x + y + c) % 18446744073709551616), .int .u64 ((x + y + c) / 18446744073709551616)])) w := by
  obtain ⟨x, rfl⟩ := Int.eq_ofNat_of_zero_le hx
  obtain ⟨y, rfl⟩ := Int.eq_ofNat_of_zero_le hy
  obtain ⟨c, rfl⟩ := Int.eq_ofNat_of_zero_le hc0
  refine (Any7.bits_Add64 Tryd.lays7x25 x y c (by omega) w).trans ?_
  congr 5 <;> omega

/-- The borrow, under a name. -/
def bor (x y : Int) : Int := if x < y then 1 else 0
theorem bor_bd (x y : Int) : 0 ≤ bor x y ∧ bor x y ≤ 1 := by unfold bor; split <;> decide
theorem bor_eq (x y : Int) (hx : 0 ≤ x) (hx' : x < 18446744073709551616) (hy : 0 ≤ y) (hy' : y ≤ 18446744073709551616) : (x - y) % 18446744073709551616 = x - y + 18446744073709551616 * bor x y := by
  unfold bor; split <;> omega

theorem sub64 (x y b : Int) (hx : 0 ≤ x) (hy : 0 ≤ y) (hy' : y < 18446744073709551616) (hb0 : 0 ≤ b) (hb : b ≤ 1) (w : World) : (callFunc 96 #[.int .u64 x, .int .u64 y, .int .u64 b]).run Tryd.prog w =
    .ok (.value (.tuple #[.int .u64 ((x - y - b) % 18446744073709551616), .int .u64 (bor x (y + b))])) w := by
  obtain ⟨x, rfl⟩ := Int.eq_ofNat_of_zero_le hx
  obtain ⟨y, rfl⟩ := Int.eq_ofNat_of_zero_le hy
  obtain ⟨b, rfl⟩ := Int.eq_ofNat_of_zero_le hb0
  have e1 : (((x + 18446744073709551616 - y - b) % 18446744073709551616 : Nat) : Int) = ((x : Int) - y - b) % 18446744073709551616 := by omega
  have e2 : ((if x < y + b then 1 else 0 : Nat) : Int) = bor (x : Int) (y + b) := by unfold bor; split <;> split <;> omega
  rw [← e1, ← e2]
  exact Any7.bits_Sub64 Tryd.lays7x26 x y b (by omega) w

/-- Words in a row of cells. -/
abbrev enc : Int → Value := Value.int .u64

theorem vl_set (d : Array Int) (i : Nat) (x : Int) (hi : i < d.size) : Wd.vl (fun j => (d.setIfInBounds i x)[j]!) (i + 1) = Wd.vl (fun j => d[j]!) i + Wd.pw i * x := by
  rw [Wd.vl_succ, getElem!_set_same d i x hi]
  congr 1
  exact Wd.vl_congr (fun j hj => getElem!_set_other d i j x (by omega))

theorem add_step (p s : Int) : p * (s % 18446744073709551616) + 18446744073709551616 * p * (s / 18446744073709551616) = p * s := by
  have e := Int.emod_add_mul_ediv s 18446744073709551616
  have : p * s = p * (s % 18446744073709551616 + 18446744073709551616 * (s / 18446744073709551616)) := by rw [e]
  rw [this, Int.mul_add, ← Int.mul_assoc, Int.mul_comm p 18446744073709551616]

theorem words_set {d : Array Int} {n i : Nat} {x : Int} (h : ∀ j, j < n → Wd.W64 d[j]!) (hx : Wd.W64 x) (hi : i < d.size) : ∀ j, j < n → Wd.W64 (d.setIfInBounds i x)[j]! := fun j hj => by
  by_cases e : j = i
  · rw [e, getElem!_set_same d i x hi]; exact hx
  · rw [getElem!_set_other d i j x e]; exact h j hj

theorem mod_w (x : Int) : Wd.W64 (x % 18446744073709551616) := ⟨by omega, by omega⟩

/-- One round of adding: the number so far. -/
theorem addInto_val {d dk : Array Int} {g : Nat → Int} {i : Nat} {x y cr : Int} (hi : i < dk.size) (hx : dk[i]! = x) (hr : dk[i]! = d[i]!) (hy : g i = y)
    (hv : Wd.vl (fun j => dk[j]!) i + Wd.pw i * cr = Wd.vl (fun j => d[j]!) i + Wd.vl g i) :
    Wd.vl (fun j => (dk.setIfInBounds i ((x + y + cr) % 18446744073709551616))[j]!) (i + 1) + Wd.pw (i + 1) * ((x + y + cr) / 18446744073709551616) = Wd.vl (fun j => d[j]!) (i + 1) + Wd.vl g (i + 1) := by
  rw [vl_set dk i _ hi, Wd.vl_succ, Wd.vl_succ, hy, ← hr, hx, Wd.pw_succ]
  have e := add_step (Wd.pw i) (x + y + cr)
  rw [Int.mul_add, Int.mul_add] at e
  omega

set_option maxHeartbeats 1000000 in
theorem addInto_any (b o c : Nat) (d : Array Int) (a' : Option Addr) (m c' : Nat) (g : Nat → Int) (w : World)
    (hH : Holds enc w b o d) (hd : ∀ j, j < d.size → Wd.W64 d[j]!) (hdc : d.size ≤ 9223372036854775807)
    (hg : RowIs w a' m c' g) (hgw : ∀ j, Wd.W64 (g j)) (hgz : ∀ j, m ≤ j → g j = 0) (hne : 0 < m → ∀ b' o', a' = some ⟨b', o', none⟩ → b' ≠ b) :
    Calls Tryd.prog 95 #[.slice (some ⟨b, o, none⟩) d.size c, .slice a' m c'] w fun e w' => e = .returned (.tuple #[]) ∧
      ∃ d' : Array Int, d'.size = d.size ∧ w' = putRow enc w b o d' ∧ (∀ j, j < d.size → Wd.W64 d'[j]!) ∧
        ∃ cr : Int, 0 ≤ cr ∧ cr ≤ 1 ∧ Wd.vl (fun j => d'[j]!) d.size + Wd.pw d.size * cr = Wd.vl (fun j => d[j]!) d.size + Wd.vl g d.size := by
  obtain ⟨h1, h2, h3⟩ := hg
  have H3 := hide h3
  have HN := hide hne
  clear h3 hne
  go_enter Tryd.func95, Tryd.ntmps95
  go_wp2
  go_loopw [4, 9] (fun vc vi wr => ∃ (i : Nat) (cr : Int) (dk : Array Int), vc = .int .u64 cr ∧ vi = .int .i64 i ∧ 0 ≤ cr ∧ cr ≤ 1 ∧ i ≤ d.size ∧ dk.size = d.size ∧ wr = putRow enc w b o dk ∧
      (∀ j, j < d.size → Wd.W64 dk[j]!) ∧ (∀ j, i ≤ j → dk[j]! = d[j]!) ∧ Wd.vl (fun j => dk[j]!) i + Wd.pw i * cr = Wd.vl (fun j => d[j]!) i + Wd.vl g i) (fun _ vi _ => d.size - (intOf vi).toNat)
  case atStart => exact ⟨0, 0, d, rfl, rfl, by decide, by decide, Nat.zero_le _, rfl, (putRow_self _ _ _ _ _ hH).symm, hd, fun _ _ => rfl, by simp [Wd.vl]⟩
  case round =>
    obtain ⟨i, cr, dk, rfl, rfl, hc0, hc1, hi, hs, hwr, hw, hr, hv⟩ := hrel
    by_cases hlt : i < d.size
    · obtain ⟨x, hx⟩ : ∃ x, dk[i]! = x := ⟨_, rfl⟩
      have hxw := hw i hlt
      have hca : wr.cell? ⟨b, o + i, none⟩ = some (.int .u64 x) := by rw [hwr, ← hx]; exact cell?_putRow _ _ _ _ d dk hH hs i (by omega)
      have hfa : wr.frozen? ⟨b, o + i, none⟩ = false := by rw [hwr, frozen?_putRow]; exact (hH i hlt).2
      obtain ⟨y, hy⟩ : ∃ y, g i = y := ⟨_, rfl⟩
      have hyw := hgw i
      rw [hx] at hxw
      rw [hy] at hyw
      obtain ⟨hx0, hx1⟩ := hxw
      obtain ⟨hy0, hy1⟩ := hyw
      have FIN : Hid (∃ (i' : Nat) (cr' : Int) (dk' : Array Int), Value.int .u64 ((x + y + cr) / 18446744073709551616) = .int .u64 cr' ∧ Value.int .i64 ((i : Int) + 1) = .int .i64 i' ∧ 0 ≤ cr' ∧ cr' ≤ 1 ∧ i' ≤ d.size ∧ dk'.size = d.size ∧
          wr.setCell ⟨b, o + i, none⟩ (.int .u64 ((x + y + cr) % 18446744073709551616)) = putRow enc w b o dk' ∧
          (∀ j, j < d.size → Wd.W64 dk'[j]!) ∧ (∀ j, i' ≤ j → dk'[j]! = d[j]!) ∧ Wd.vl (fun j => dk'[j]!) i' + Wd.pw i' * cr' = Wd.vl (fun j => d[j]!) i' + Wd.vl g i') := by
        refine ⟨i + 1, _, dk.setIfInBounds i ((x + y + cr) % 18446744073709551616), rfl, by go_num, by omega, by omega, hlt, by simpa using hs, ?_, words_set hw (mod_w _) (by omega), fun j hj => ?_, addInto_val (by omega) hx (hr i (Nat.le_refl _)) hy hv⟩
        · rw [hwr]; exact putRow_set enc w b o dk i _ (by omega)
        · rw [getElem!_set_other dk i j _ (by omega)]; exact hr j (by omega)
      have hym : ¬ i < m → y = 0 := fun h => by rw [← hy]; exact hgz i (by omega)
      have HYM := hide hym
      have HY := hide hy
      clear hv hr hw hx hy hgz hgw hd hH hym
      by_cases him : i < m
      · have hm : 0 < m := by omega
        obtain ⟨b', o', ha', hlt', hc'⟩ := unhide H3 hm
        have hbb := unhide HN hm b' o' ha'
        have hcb := hc' i him
        rw [unhide HY, ← cell?_putRow_other enc w b o dk ⟨b', o' + i, none⟩ (Or.inl hbb), ← hwr] at hcb
        subst ha'
        clear hc' hwr H3 HN HYM HY
        go_wp2_with (simp only [add64 x y cr hx0 hy0 hc0 hc1])
        exact ⟨unhide FIN, by simp [intOf]; omega⟩
      · obtain rfl := unhide HYM him
        clear H3 HN HYM HY hwr
        go_wp2_with (simp only [add64 x 0 cr hx0 hy0 hc0 hc1])
        exact ⟨by have := unhide FIN; simpa using this, by simp [intOf]; omega⟩
    · obtain rfl : i = d.size := by omega
      go_wp2
      go_end0
      exact ⟨rfl, dk, hs, rfl, hw, cr, hc0, hc1, hv⟩
end Go.Proofs.YtdicbnchkfclaaaDoor
