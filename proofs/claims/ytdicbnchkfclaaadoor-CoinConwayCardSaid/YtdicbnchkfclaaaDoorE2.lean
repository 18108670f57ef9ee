/- coin.check, coin.lead. -/
import Derived.Test.YtdicbnchkfclaaaDoorE1
namespace Go.Proofs.YtdicbnchkfclaaaDoor
open Go.RowKit Go.Sort Go.Shelf

theorem one_RS' : RS (1 : Rat) 1 := by
  refine ⟨?_, ?_⟩ <;> (show (1 : Int) < Wd.pw 1; decide)
theorem onei_RS : RS ((1 : Int) : Rat) 1 := by
  refine ⟨?_, ?_⟩ <;> (show (1 : Int) < Wd.pw 1; decide)
theorem RS.sub' {a b : Rat} {i j : Nat} (ha : RS a i) (hb : RS b j) : RS (a - b) (i + j + 1) := by
  rw [Rat.sub_eq_add_neg]; exact ha.add hb.neg
theorem RS.div' {a b : Rat} {i j : Nat} (ha : RS a i) (hb : RS b j) (hz : b.num ≠ 0) : RS (a / b) (i + j) := by
  rw [Rat.div_def]; exact ha.mul (hb.inv hz)

/-- Words that are handed on together. -/
def WordsAt (w : World) (b o : Nat) (ws : List ((Option Addr × Nat × Nat) × (Nat → Int))) : Prop :=
  b < w.heap.size ∧ ∀ j (h : j < ws.length), w.cell? ⟨b, o + j, none⟩ = some (.slice ws[j].1.1 ws[j].1.2.1 ws[j].1.2.2) ∧ IRow w ws[j].1.1 ws[j].1.2.1 ws[j].1.2.2 ws[j].2

def CkSays (e : Ending) (w w' : World) (good : Prop) : Prop := ∃ k : Int, e = .returned (errV k) ∧ (k = 0 ↔ good) ∧ Below w.heap.size w w'

set_option maxHeartbeats 2000000 in
theorem coinCheck_any (v : Value) (qs : List Rat) (J : Nat) (b o cw : Nat) (ws : List ((Option Addr × Nat × Nat) × (Nat → Int))) (w : World) (hL : LawIs w v qs) (hW : WordsAt w b o ws) (hn : ws.length ≤ cw) (hn2 : cw ≤ 100)
    (hq : ∀ j, j < qs.length → RS qs[j]! J) (hJ : (qs.length * (J + 1) + 1 + J) + (qs.length * (J + 1) + 1 + J) + 1 ≤ KK) :
    Calls Tryd.prog 59 #[v, .slice (some ⟨b, o, none⟩) ws.length cw] w fun e w' => CkSays e w w' (chk qs = 0 ∧ ∀ j (h : j < ws.length), GoodW qs ws[j].1.2.1 ws[j].2) := by
  have HC := hide (check_any v qs J w hL hq hJ)
  have HL := hide hL
  have HW := hide hW
  clear hL hW hq hJ
  by_cases hz : chk qs = 0
  · have HZ := hide hz
    rw [hz] at HC
    clear hz
    go_enter Tryd.func59, Tryd.ntmps59
    go_wp2_with fail
    refine (unhide HC).mono ?_
    rintro e w1 ⟨rfl, hb1⟩
    simp only [show errV 0 = Value.nilIface from rfl]
    have HB1 := hide hb1
    clear hb1 HC
    go_wp2_with fail
    go_loopw [16] (fun vi wr => ∃ i : Nat, vi = .int .i64 (i : Int) ∧ i ≤ ws.length ∧ Below w.heap.size w wr ∧ ∀ j (h : j < ws.length), j < i → GoodW qs ws[j].1.2.1 ws[j].2) (fun vi _ => ws.length - (intOf vi).toNat)
    case atStart => exact ⟨0, rfl, Nat.zero_le _, unhide HB1, fun j _ h => absurd h (Nat.not_lt_zero _)⟩
    case round =>
      obtain ⟨i, rfl, hi, bl, hgo⟩ := hrel
      have HGO := hide hgo
      have HBL := hide bl
      clear hgo HB1
      by_cases hlt : i < ws.length
      · obtain ⟨hbl, hws⟩ := unhide HW
        obtain ⟨hci, hri⟩ := hws i hlt
        rw [← bl.cell (p := ⟨b, o + i, none⟩) hbl] at hci
        have HCW := hide (checkWord_any v qs ws[i].1.1 ws[i].1.2.1 ws[i].1.2.2 ws[i].2 wr ((unhide HL).below bl) (hri.below bl))
        have i1 : (i : Int) < (ws.length : Int) := by omega
        have i2 : (0 : Int) ≤ (i : Int) := by omega
        obtain ⟨gd, hgd⟩ : ∃ p, GoodW qs ws[i].1.2.1 ws[i].2 = p := ⟨_, rfl⟩
        rw [hgd] at HCW
        have HGD := hide hgd
        clear hws hri bl hgd
        go_wp2_with fail
        refine (unhide HCW).mono ?_
        rintro e w2 ⟨k, rfl, hk, hb2⟩
        have HB2 := hide (below_step (unhide HBL) hb2)
        have HK := hide hk
        clear hb2 hk HCW HBL
        by_cases hk0 : k = 0
        · subst hk0
          simp only [show errV 0 = Value.nilIface from rfl]
          go_wp2
          refine ⟨⟨i + 1, by go_num, by omega, unhide HB2, fun j hj hji => ?_⟩, by simp [intOf]; omega⟩
          rcases Nat.lt_or_ge j i with h | h
          · exact unhide HGO j hj h
          · obtain rfl : j = i := by omega
            rw [unhide HGD]
            exact (unhide HK).1 rfl
        · rw [show errV k = .iface 68 (.int .i64 k) from if_neg hk0]
          go_wp2
          go_ret
          refine ⟨k, (by rw [show errV k = .iface 68 (.int .i64 k) from if_neg hk0]; rfl), ⟨fun h => absurd h hk0, fun h => absurd ?_ hk0⟩, unhide HB2⟩
          exact (unhide HK).2 (by rw [← unhide HGD]; exact h.2 i hlt)
      · obtain rfl : i = ws.length := by omega
        clear bl
        go_wp2
        go_ret
        exact ⟨0, rfl, ⟨fun _ => ⟨unhide HZ, fun j h => unhide HGO j h h⟩, fun _ => rfl⟩, unhide HBL⟩
  · generalize chk qs = k at *
    rw [show errV k = .iface 68 (.int .i64 k) from if_neg hz] at HC
    clear HL HW
    go_enter Tryd.func59, Tryd.ntmps59
    go_wp2_with fail
    refine (unhide HC).mono ?_
    rintro e w1 ⟨rfl, hb1⟩
    have HB1 := hide hb1
    clear hb1 HC
    go_wp2
    go_ret
    exact ⟨k, (by rw [show errV k = .iface 68 (.int .i64 k) from if_neg hz]; rfl), ⟨fun h => absurd h hz, fun h => absurd h.1 hz⟩, unhide HB1⟩

end Go.Proofs.YtdicbnchkfclaaaDoor
