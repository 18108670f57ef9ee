/- How far each place is from one: the program's search. -/
import Derived.Test.YtcmddkekidgkoaaDoorTE1
import Derived.Lib.AppendZeros
namespace Go.Proofs.YtcmddkekidgkoaaDoor
open Go.RowKit Go.Sort Go.Shelf

theorem oth_inc {n m : Nat} {f : Nat → T3} (H : GoodE n m f) {i h : Nat} (hi : i < m) (_hh : h < n) : (∃ x, x < n ∧ oth (f i) (h : Int) = ((x : Int), true) ∧ Tre.Inc (eA f) (eB f) i h x ∧ ∀ y, Tre.Inc (eA f) (eB f) i h y → y = x) ∨ (oth (f i) (h : Int) = (0, false) ∧ ∀ x, ¬ Tre.Inc (eA f) (eB f) i h x) := by
  have ha := H.a i hi
  have hb := H.b i hi
  unfold oth Tre.Inc eA eB
  by_cases c1 : (h : Int) = (f i).1
  · rw [if_pos c1]
    refine Or.inl ⟨(f i).2.1.toNat, by omega, by rw [Int.toNat_of_nonneg hb.1], Or.inl ⟨by omega, rfl⟩, fun y hy => ?_⟩
    rcases hy with ⟨_, e⟩ | ⟨e1, e2⟩ <;> omega
  · rw [if_neg c1]
    by_cases c2 : (h : Int) = (f i).2.1
    · rw [if_pos c2]
      refine Or.inl ⟨(f i).1.toNat, by omega, by rw [Int.toNat_of_nonneg ha.1], Or.inr ⟨by omega, rfl⟩, fun y hy => ?_⟩
      rcases hy with ⟨e, _⟩ | ⟨e1, e2⟩ <;> omega
    · rw [if_neg c2]
      refine Or.inr ⟨rfl, fun x hx => ?_⟩
      rcases hx with ⟨e, _⟩ | ⟨e, _⟩ <;> omega
def allE : Nat → Prop := fun _ => True
/-- What a search has so far. -/
structure FS (w0 w : World) (G g o nq c n m : Nat) (f : Nat → T3) (p : Nat) (q : List Nat) (out : Nat → Int) : Prop where
  own : OwnI w G n out
  run : Tre.Run m (eA f) (eB f) (eL f) allE p out
  que : QAt w (G + 1) g o nq c q
  qf : ∀ v ∈ q, v < n ∧ out v ≠ -1
  few : nq ≤ Tre.cnt (Tre.fnd out) n
  bl : Below w0.heap.size w0 w
theorem cnt_pos {p : Nat → Bool} {x : Nat} (h : p x = true) : ∀ n, x < n → 1 ≤ Tre.cnt p n
  | 0, hx => absurd hx (Nat.not_lt_zero _)
  | n + 1, hx => by
    show 1 ≤ Tre.cnt p n + (if p n = true then 1 else 0)
    by_cases c : x = n
    · subst c; rw [if_pos h]; omega
    · have := cnt_pos h n (by omega); omega
def Shut (n m : Nat) (f : Nat → T3) (q : List Nat) (out : Nat → Int) (h : Nat) : Prop := ∀ v, v < n → out v ≠ -1 → v ∉ q → v ≠ h → ∀ j x, j < m → Tre.Inc (eA f) (eB f) j v x → out x ≠ -1
def Till (m k : Nat) (f : Nat → T3) (out : Nat → Int) (h : Nat) : Prop := ∀ j x, j < k → j < m → Tre.Inc (eA f) (eB f) j h x → out x ≠ -1
def fnW (w : World) (G : Nat) (v : Nat) : Int := match w.cell? ⟨G, v, none⟩ with
  | some x => intOf x
  | none => 0
theorem fnW_own {w : World} {G n : Nat} {out : Nat → Int} (h : OwnI w G n out) : Tre.cnt (Tre.fnd (fnW w G)) n = Tre.cnt (Tre.fnd out) n := Tre.cnt_congr n (fun v hv => by
  unfold Tre.fnd fnW
  rw [h.cell hv]
  rfl)
def lenV : Value → Nat
  | .slice _ n _ => n
  | _ => 0
def mzr (G n : Nat) (v : Value) (w : World) : Nat := n - Tre.cnt (Tre.fnd (fnW w G)) n + lenV v
theorem mzr_at {w0 w : World} {G g o nq c n m p : Nat} {f : Nat → T3} {q : List Nat} {out : Nat → Int} (h : FS w0 w G g o nq c n m f p q out) : mzr G n (.slice (some ⟨g, o, none⟩) nq c) w = n - Tre.cnt (Tre.fnd out) n + nq := by
  unfold mzr
  rw [fnW_own h.own]; rfl
theorem FS.keep {w0 w w' : World} {G g o nq c n m p : Nat} {f : Nat → T3} {q : List Nat} {out : Nat → Int} (h : FS w0 w G g o nq c n m f p q out) (hb : Below w.heap.size w w') : FS w0 w' G g o nq c n m f p q out :=
  ⟨h.own.keep hb, h.run, h.que.keep hb, h.qf, h.few, below_step h.bl hb⟩
theorem GoodE.lpos {n m : Nat} {f : Nat → T3} (H : GoodE n m f) : ∀ i, i < m → 0 ≤ eL f i := fun i hi => (H.l i hi).1
theorem GoodE.lA {n m : Nat} {f : Nat → T3} (H : GoodE n m f) : ∀ i, i < m → eA f i < n := fun i hi => by have := H.a i hi; unfold eA; omega
theorem GoodE.lB {n m : Nat} {f : Nat → T3} (H : GoodE n m f) : ∀ i, i < m → eB f i < n := fun i hi => by have := H.b i hi; unfold eB; omega
theorem FS.bd {w0 w : World} {G g o nq c n m p : Nat} {f : Nat → T3} {q : List Nat} {out : Nat → Int} (h : FS w0 w G g o nq c n m f p q out) (H : GoodE n m f) (hp : p < n) (v : Nat) : -1 ≤ out v ∧ out v ≤ 1000000000 * n := by
  have h1 := h.run.low H.lpos v
  have h2 := h.run.high (M := 1000000000) (by decide) (fun i hi => H.l i hi) hp H.lA H.lB v
  have h3 := Tre.cnt_le (Tre.fnd out) n
  have h4 : (1000000000 : Int) * (Tre.cnt (Tre.fnd out) n : Int) ≤ 1000000000 * (n : Int) := Int.mul_le_mul_of_nonneg_left (by omega) (by decide)
  omega
theorem cnt_find {out : Nat → Int} {x h n : Nat} {V : Int} (hx : out x = -1) (hxn : x < n) (hlow : -1 ≤ out h) (hh : out h ≠ -1) {l : Int} (hl : 0 ≤ l) (hV : V = out h + l) : Tre.cnt (Tre.fnd (updI out x V)) n = Tre.cnt (Tre.fnd out) n + 1 := by
  rw [hV]; exact Tre.fnd_step hlow hh hl hx n hxn
/-- One more is found. -/
theorem FS.find {w0 w w' : World} {G g o nq c g' o' c' n m p i h x : Nat} {f : Nat → T3} {q : List Nat} {out : Nat → Int} {V : Int} (H : GoodE n m f) (hp : p < n) (S : FS w0 w G g o nq c n m f p q out) (hi : i < m) (hinc : Tre.Inc (eA f) (eB f) i h x) (hh : out h ≠ -1) (hx : out x = -1) (hxn : x < n) (hV : V = out h + eL f i)
    (own : OwnI w' G n (updI out x V)) (que : QAt w' (G + 1) g' o' (nq + 1) c' (q ++ [x])) (bl : Below w0.heap.size w0 w') : FS w0 w' G g' o' (nq + 1) c' n m f p (q ++ [x]) (updI out x V) := by
  have hlow := (S.bd H hp h).1
  have hl := H.lpos i hi
  refine ⟨own, ?_, que, fun v hv => ?_, ?_, bl⟩
  · rw [hV]; exact S.run.step hi trivial hinc hh hx
  · unfold updI
    by_cases c1 : v = x
    · rw [if_pos c1]; exact ⟨by omega, by omega⟩
    · rw [if_neg c1]
      rcases List.mem_append.1 hv with h1 | h1
      · exact S.qf v h1
      · rw [List.mem_singleton] at h1; exact absurd h1 c1
  · rw [cnt_find hx hxn hlow hh hl hV]; have := S.few; omega
theorem upd_found {out : Nat → Int} {x v : Nat} {V : Int} (hV : V ≠ -1) (h : out v ≠ -1) : updI out x V v ≠ -1 := by
  unfold updI
  split
  · exact hV
  · exact h
theorem Shut.find {n m x h : Nat} {f : Nat → T3} {q : List Nat} {out : Nat → Int} {V : Int} (S : Shut n m f q out h) (hV : V ≠ -1) : Shut n m f (q ++ [x]) (updI out x V) h := fun v hv h1 h2 h3 j y hj hinc => by
  have h2' : v ∉ q ∧ v ≠ x := ⟨fun e => h2 (List.mem_append_left _ e), fun e => h2 (List.mem_append_right _ (by rw [e]; exact List.mem_singleton.2 rfl))⟩
  refine upd_found hV (S v hv ?_ h2'.1 h3 j y hj hinc)
  unfold updI at h1
  rw [if_neg h2'.2] at h1
  exact h1
theorem Till.find {m i x h : Nat} {f : Nat → T3} {out : Nat → Int} {V : Int} (S : Till m i f out h) (hV : V ≠ -1) (hu : ∀ y, Tre.Inc (eA f) (eB f) i h y → y = x) : Till m (i + 1) f (updI out x V) h := fun j y hj hjm hinc => by
  by_cases c : j = i
  · subst c
    rw [hu y hinc]
    unfold updI
    rw [if_pos rfl]; exact hV
  · exact upd_found hV (S j y (by omega) hjm hinc)
theorem Till.next {m i h : Nat} {f : Nat → T3} {out : Nat → Int} (S : Till m i f out h) (hu : ∀ y, Tre.Inc (eA f) (eB f) i h y → out y ≠ -1) : Till m (i + 1) f out h := fun j y hj hjm hinc => by
  by_cases c : j = i
  · subst c; exact hu y hinc
  · exact S j y (by omega) hjm hinc
theorem Shut.pop {n m h : Nat} {f : Nat → T3} {q : List Nat} {out : Nat → Int} {z : Nat} (S : Shut n m f (h :: q) out z) (hz : n ≤ z) : Shut n m f q out h := fun v hv h1 h2 h3 => S v hv h1 (fun e => by
  rcases List.mem_cons.1 e with e | e
  · exact h3 e
  · exact h2 e) (by omega)
theorem Shut.all {n m h : Nat} {f : Nat → T3} {q : List Nat} {out : Nat → Int} (S : Shut n m f q out h) (T : Till m m f out h) : Shut n m f q out n := fun v hv h1 h2 _ j x hj hinc => by
  by_cases c : v = h
  · subst c; exact T j x hj hj hinc
  · exact S v hv h1 h2 c j x hj hinc
def FarPost (w : World) (n m : Nat) (f : Nat → T3) (p : Nat) (e : Ending) (w' : World) : Prop := ∃ (G : Nat) (out : Nat → Int), w.heap.size ≤ G ∧ e = .returned (.slice (some ⟨G, 0, none⟩) n n) ∧ OwnI w' G n out ∧ Tre.Run m (eA f) (eB f) (eL f) allE p out ∧ Tre.Ended m (eA f) (eB f) allE out ∧ Below w.heap.size w w'
theorem ended_of {n m : Nat} {f : Nat → T3} {out : Nat → Int} (H : GoodE n m f) (S : Shut n m f [] out n) : Tre.Ended m (eA f) (eB f) allE out := fun i hi _ => by
  have ha := H.lA i hi
  have hb := H.lB i hi
  exact ⟨fun h => S _ ha h (by simp) (by omega) i _ hi (Or.inl ⟨rfl, rfl⟩), fun h => S _ hb h (by simp) (by omega) i _ hi (Or.inr ⟨rfl, rfl⟩)⟩

set_option maxHeartbeats 16000000 in
set_option maxRecDepth 100000 in
set_option linter.unusedSimpArgs false in
theorem far_any (n : Nat) (a : Option Addr) (m c : Nat) (f : Nat → T3) (p : Nat) (w : World) (ha : TRow w a m c f) (hn1 : 1 ≤ n) (hn : n ≤ 60) (hm : m ≤ 60) (hp : p < n) (H : GoodE n m f) :
    Calls Tryd.prog 49 #[.int .i64 (n : Int), .slice a m c, .int .i64 (p : Int)] w (FarPost w n m f p) := by
  have HE := hide H
  have HA := hide ha
  have ba := alloc_below w (.cells #[.int .i64 (-1)] 3)
  obtain ⟨W1, hW1⟩ : ∃ W, w.alloc (.cells #[.int .i64 (-1)] 3) = W := ⟨_, rfl⟩
  have hb1 : W1.heap[w.heap.size]? = some (.cells #[.int .i64 (-1)] 3) := by rw [← hW1]; exact heap_alloc_new w _
  have HR := hide (repeat_any w.heap.size (-1) n W1 hb1 hn1 (by omega))
  rw [hW1] at ba
  have HBA := hide ba
  have q1 := ha.1
  have q2 := ha.2.1
  have e1 : (0 : Int) ≤ (p : Int) := by omega
  have e2 : (p : Int) < (n : Int) := by omega
  clear ha H ba hb1
  go_enter Tryd.func49, Tryd.ntmps49
  go_wp2_with fail
  clear hW1
  refine (unhide HR).mono ?_
  rintro e w2 ⟨G, hG, rfl, O2, hb2⟩
  have HGE : Hid (w.heap.size ≤ G) := Nat.le_trans (unhide HBA).size hG
  have k0 := O2.cell hp
  have l0 := O2.free p
  have O3 := O2.set p 0
  have B3 := (below_step (unhide HBA) hb2).setCell (p := ⟨G, p, none⟩) (unhide HGE) (.int .i64 0)
  have S2 : (w2.setCell ⟨G, p, none⟩ (.int .i64 0)).heap.size = w2.heap.size := by rw [setCell_eq]; simp [mapBlock]
  obtain ⟨W3, hW3⟩ : ∃ W, w2.setCell ⟨G, p, none⟩ (.int .i64 0) = W := ⟨_, rfl⟩
  rw [hW3] at O3 B3 S2
  have QS := QAt.start W3 (G + 1) p (by rw [S2]; exact O2.lt)
  have BQ := alloc_below W3 (.cells #[.int .i64 (p : Int)] 3)
  obtain ⟨g0, hg0⟩ : ∃ g, W3.heap.size = g := ⟨_, rfl⟩
  rw [hg0] at QS
  have O4 := O3.keep BQ
  have B4 := below_step B3 BQ
  obtain ⟨W4, hW4⟩ : ∃ W, W3.alloc (.cells #[.int .i64 (p : Int)] 3) = W := ⟨_, rfl⟩
  rw [hW4] at QS O4 B4
  have HS0 : Hid (FS w W4 G g0 0 1 1 n m f p [p] (fun v => if v = p then 0 else -1)) := by
    refine ⟨O4.congr (fun j _ => rfl), Tre.Run.start _ _ _ _ _ _, QS, fun v hv => ?_, ?_, B4⟩
    · obtain rfl := List.mem_singleton.1 hv
      exact ⟨hp, by rw [if_pos rfl]; decide⟩
    · exact cnt_pos (x := p) (by unfold Tre.fnd; simp) n hp
  have HT0 : Hid (Shut n m f [p] (fun v => if v = p then 0 else -1) n) := fun v _ h1 h2 => by
    by_cases c : v = p
    · exact absurd (List.mem_singleton.2 c) h2
    · exact absurd (if_neg c) h1
  clear O2 hb2 O3 B3 S2 QS BQ O4 B4 HR HBA hG
  go_wp2_with fail
  clear k0 l0 hW3 hg0 hW4
  go_loopw [8] (fun vq wr => ∃ (g o nq cq : Nat) (q : List Nat) (out : Nat → Int), vq = .slice (some ⟨g, o, none⟩) nq cq ∧ FS w wr G g o nq cq n m f p q out ∧ Shut n m f q out n) (fun vq wr => mzr G n vq wr)
  case atStart => exact ⟨_, _, _, _, _, _, rfl, unhide HS0, unhide HT0⟩
  case round =>
    obtain ⟨g, o, nq, cq, q, out, rfl, S, T⟩ := hrel
    clear HS0 HT0
    have q3 := S.que.le
    have q4 := S.que.max
    cases q with
    | nil =>
      obtain rfl : nq = 0 := S.que.len.symm
      have HFIN : Hid (FarPost w n m f p (.returned (.slice (some ⟨G, 0, none⟩) n n)) wr) := ⟨G, out, unhide HGE, rfl, S.own, S.run, ended_of (unhide HE) T, S.bl⟩
      clear S T
      go_wp2
      go_ret
      exact unhide HFIN
    | cons h q =>
      obtain ⟨n1, rfl⟩ : ∃ n1, nq = n1 + 1 := ⟨q.length, by rw [← S.que.len]; rfl⟩
      obtain ⟨c1, rfl⟩ : ∃ c1, cq = c1 + 1 := ⟨cq - 1, by omega⟩
      have hq := S.qf h (List.mem_cons_self ..)
      have k0 : wr.cell? ⟨g, o, none⟩ = some (.int .i64 (h : Int)) := S.que.cell 0 (by omega)
      have HQ := hide hq
      have HMZ := hide (mzr_at S)
      have f1 : (0 : Int) < ((n1 + 1 : Nat) : Int) := by omega
      have f2 : ((1 : Int)) ≤ ((n1 + 1 : Nat) : Int) := by omega
      have f3 : ((1 : Int)) ≤ ((c1 + 1 : Nat) : Int) := by omega
      have HT1 : Hid (Shut n m f q out h) := fun v hv h1 h2 h3 => T v hv h1 (fun e => by
        rcases List.mem_cons.1 e with e | e
        · exact h3 e
        · exact h2 e) (by omega)
      by_cases hc : c1 = 0
      case' pos =>
        have hn0 : n1 = 0 := by omega
        have HS1 : Hid (FS w wr G g o n1 c1 n m f p q out) := by
          subst hc
          subst hn0
          exact ⟨S.own, S.run, S.que.tail0 o, fun v hv => S.qf v (List.mem_cons_of_mem _ hv), by omega, S.bl⟩
        clear S T hq q3 hn0
        go_wp2_with fail
        rw [hc] at HS1
      case' neg =>
        have HS1 : Hid (FS w wr G g (o + 1) n1 c1 n m f p q out) := ⟨S.own, S.run, S.que.tail, fun v hv => S.qf v (List.mem_cons_of_mem _ hv), by have := S.few; omega, S.bl⟩
        obtain ⟨o1, ho1⟩ : ∃ x, o + 1 = x := ⟨_, rfl⟩
        rw [ho1] at HS1
        clear S T hq q3
        go_wp2_with fail
        clear ho1
      all_goals
        clear k0 f1 f2 f3 hc
        obtain ⟨K, hK⟩ : ∃ K, n + n1 = K + Tre.cnt (Tre.fnd out) n := ⟨n + n1 - Tre.cnt (Tre.fnd out) n, by have := Tre.cnt_le (Tre.fnd out) n; omega⟩
        have HK := hide hK
        have HK0 := hide hK
        have HO : Hid (out h ≠ -1) := (unhide HQ).2
        clear hK
        have HT2 : Hid (Till m 0 f out h) := fun j x hj => absurd hj (Nat.not_lt_zero _)
        go_loopw [32, 8] (fun vi vq wr => ∃ (i g o nq cq : Nat) (q : List Nat) (out : Nat → Int), vi = .int .i64 (i : Int) ∧ i ≤ m ∧ vq = .slice (some ⟨g, o, none⟩) nq cq ∧ FS w wr G g o nq cq n m f p q out ∧ Shut n m f q out h ∧ Till m i f out h ∧ out h ≠ -1 ∧ n + nq = K + Tre.cnt (Tre.fnd out) n) (fun vi _ _ => m - (intOf vi).toNat)
        case atStart => exact ⟨0, _, _, _, _, _, _, rfl, Nat.zero_le _, rfl, unhide HS1, unhide HT1, unhide HT2, unhide HO, unhide HK⟩
        case round =>
          obtain ⟨i, g2, o2, n2, c2, q2_, out2, rfl, hi, rfl, S, T, T2, hO, hK⟩ := hrel
          clear HS1 HT1 HT2 HO HK
          have q5 := S.que.le
          have q6 := S.que.max
          by_cases hlt : i < m
          · have hS := mzr_at S
            clear hS
            obtain ⟨b, oo, rfl, hbl, hc3⟩ := ((unhide HA).below S.bl).2.2 (by omega)
            have ⟨k0, k1, k2⟩ := hc3 i hlt
            obtain ⟨t, ht⟩ : ∃ t, f i = t := ⟨_, rfl⟩
            rw [ht] at k0 k1 k2
            have e3 : (0 : Int) ≤ (i : Int) := by omega
            have e4 : (i : Int) < (m : Int) := by omega
            have e5 : (0 : Int) ≤ (h : Int) := by omega
            have e6 : (h : Int) < (n : Int) := by have := (unhide HQ).1; omega
            obtain ⟨b1, hb1⟩ : ∃ b, wr.heap.size = b := ⟨_, rfl⟩
            have ba := alloc_below wr (.cells #[.int .i64 t.1, .int .i64 t.2.1, .int .i64 t.2.2] 81)
            have HX : Hid (∀ W, Below (wr.alloc (.cells #[.int .i64 t.1, .int .i64 t.2.1, .int .i64 t.2.2] 81)).heap.size (wr.alloc (.cells #[.int .i64 t.1, .int .i64 t.2.1, .int .i64 t.2.2] 81)) W → W.cell? ⟨b1, 0, none⟩ = some (.int .i64 t.1) ∧ W.cell? ⟨b1, 1, none⟩ = some (.int .i64 t.2.1) ∧ W.cell? ⟨b1, 2, none⟩ = some (.int .i64 t.2.2)) := fun W hW => by rw [← hb1]; exact box3 hW
            have C1 := hide (across_any t (h : Int) (wr.alloc (.cells #[.int .i64 t.1, .int .i64 t.2.1, .int .i64 t.2.2] 81)))
            obtain ⟨W1, hW1⟩ : ∃ W, wr.alloc (.cells #[.int .i64 t.1, .int .i64 t.2.1, .int .i64 t.2.2] 81) = W := ⟨_, rfl⟩
            rw [hW1] at ba HX C1
            have HS := hide (S.keep ba)
            have HTS := hide T
            have HT2 := hide T2
            have HO := hide hO
            have HK := hide hK
            have HHT := hide ht
            have ⟨x0, x1, x2⟩ := unhide HX W1 (Below.refl _ _)
            clear S T T2 hO hK ht hc3 ba
            go_wp2_with fail
            clear k0 k1 k2 x0 x1 x2 hW1 hb1
            refine (unhide C1).mono ?_
            rintro e w2 ⟨rfl, hb2⟩
            have ⟨x0, x1, x2⟩ := unhide HX w2 hb2
            have HS2 := hide ((unhide HS).keep hb2)
            clear C1 HX HS hb2
            have hcase := oth_inc (unhide HE) hlt (unhide HQ).1
            rw [unhide HHT] at hcase
            have e7 : IntKind.i64.wrap ((i : Int) + 1) = ((i + 1 : Nat) : Int) := by rw [IntKind.wrap_i64]; omega
            rcases hcase with ⟨x, hxn, hox, hinc, hun⟩ | ⟨hox, hno⟩
            · rw [hox]
              have l0 := (unhide HS2).own.cell hxn
              have e8 : (0 : Int) ≤ (x : Int) := by omega
              have e9 : (x : Int) < (n : Int) := by omega
              obtain ⟨dx, hdx⟩ : ∃ d, out2 x = d := ⟨_, rfl⟩
              rw [hdx] at l0
              have HIN := hide hinc
              have HUN := hide hun
              clear hox hinc hun
              by_cases hfd : dx = -1
              · subst hfd
                have bdh := (unhide HS2).bd (unhide HE) hp h
                have bz := (unhide HE).l i hlt
                have hh := (unhide HS2).own.cell (unhide HQ).1
                have hEL : eL f i = t.2.2 := by unfold eL; rw [unhide HHT]
                rw [unhide HHT] at bz
                obtain ⟨dh, hdh⟩ : ∃ d, out2 h = d := ⟨_, rfl⟩
                rw [hdh] at bdh hh
                obtain ⟨z, hz⟩ : ∃ z, t.2.2 = z := ⟨_, rfl⟩
                rw [hz] at x2 bz hEL
                have e10 : IntKind.i64.wrap (dh + z) = dh + z := by rw [IntKind.wrap_i64]; omega
                have HHH := hide hh
                have HBX := hide x2
                have hG1 : G < w2.heap.size := (unhide HS2).own.lt
                have hb1l : b1 < w2.heap.size := World.block_lt_of_cell? w2 _ x2
                have HCC : Hid (∀ W, Below w2.heap.size w2 W → (fun w' : World => w'.cell? ⟨G, h, none⟩ = some (.int .i64 dh) ∧ w'.cell? ⟨b1, 2, none⟩ = some (.int .i64 z)) W) := fun W hW => ⟨by rw [hW.cell (p := ⟨G, h, none⟩) hG1]; exact unhide HHH, by rw [hW.cell (p := ⟨b1, 2, none⟩) hb1l]; exact unhide HBX⟩
                have HVD : Hid (dh + z = out2 h + eL f i) := by show _ = _; rw [hdh, hEL]
                have HVN : Hid (dh + z ≠ -1) := by
                  show _ ≠ _
                  have := unhide HO
                  rw [hdh] at this
                  omega
                have HDX := hide hdx
                clear hdh hz bdh bz hh hEL hdx x0 x1 x2
                go_wp2_with fail
                refine wp_region_till (fun w' : World => w'.cell? ⟨G, h, none⟩ = some (.int .i64 dh) ∧ w'.cell? ⟨b1, 2, none⟩ = some (.int .i64 z)) 10 (by kernel_rfl) ?_
                have bd0 : Below w2.heap.size w2 w2.drew := (Below.refl _ _).drew
                obtain ⟨Wd, hWd⟩ : ∃ W, w2.drew = W := ⟨_, rfl⟩
                rw [hWd] at bd0 ⊢
                have hC0 : (fun w' : World => w'.cell? ⟨G, h, none⟩ = some (.int .i64 dh) ∧ w'.cell? ⟨b1, 2, none⟩ = some (.int .i64 z)) Wd := unhide HCC _ bd0
                refine wpTill_pure (i := 0) (v := ?_) rfl (by kernel_rfl) (by kernel_rfl) (by kernel_rfl) (by kernel_rfl) (fun _ _ _ h => h) (Or.inl ⟨by rfl, ?_⟩) (fun _ => hC0) ?_
                rotate_left
                · intro w hSw; clear hSw; go_simp; (try with_reducible rfl)
                (try simp only [List.getElem_toArray, List.getElem_cons_succ, List.getElem_cons_zero])
                (try simp only [Act.put, List.setIfInBounds_toArray, List.set_cons_zero, List.set_cons_succ])
                refine wpTill_pure (i := 1) (v := ?_) rfl (by kernel_rfl) (by kernel_rfl) (by kernel_rfl) (by kernel_rfl) (fun _ _ _ h => h) (Or.inl ⟨by rfl, ?_⟩) (fun _ => hC0) ?_
                rotate_left
                · intro w hSw; clear hSw; go_simp; (try with_reducible rfl)
                (try simp only [List.getElem_toArray, List.getElem_cons_succ, List.getElem_cons_zero])
                (try simp only [Act.put, List.setIfInBounds_toArray, List.set_cons_zero, List.set_cons_succ])
                refine wpTill_pure (i := 2) (v := ?_) rfl (by kernel_rfl) (by kernel_rfl) (by kernel_rfl) (by kernel_rfl) (fun _ _ _ h => h) (Or.inl ⟨by rfl, ?_⟩) (fun _ => hC0) ?_
                rotate_left
                · intro w hSw; clear hSw; go_simp; (try with_reducible rfl)
                (try simp only [List.getElem_toArray, List.getElem_cons_succ, List.getElem_cons_zero])
                (try simp only [Act.put, List.setIfInBounds_toArray, List.set_cons_zero, List.set_cons_succ])
                refine wpTill_pure (i := 3) (v := ?_) rfl (by kernel_rfl) (by kernel_rfl) (by kernel_rfl) (by kernel_rfl) (fun _ _ _ h => h) (Or.inl ⟨by rfl, ?_⟩) (fun _ => hC0) ?_
                rotate_left
                · intro w hSw; clear hSw; go_simp; (try with_reducible rfl)
                (try simp only [List.getElem_toArray, List.getElem_cons_succ, List.getElem_cons_zero])
                (try simp only [Act.put, List.setIfInBounds_toArray, List.set_cons_zero, List.set_cons_succ])
                refine wpTill_pure (i := 4) (v := ?_) rfl (by kernel_rfl) (by kernel_rfl) (by kernel_rfl) (by kernel_rfl) (fun _ _ _ h => h) (Or.inl ⟨by rfl, ?_⟩) (fun _ => hC0) ?_
                rotate_left
                · intro w hSw; clear hSw; go_simp; (try with_reducible rfl)
                (try simp only [List.getElem_toArray, List.getElem_cons_succ, List.getElem_cons_zero])
                (try simp only [Act.put, List.setIfInBounds_toArray, List.set_cons_zero, List.set_cons_succ])
                refine wpTill_take (i := 5) (v := ?_) rfl (by kernel_rfl) (by kernel_rfl) (by kernel_rfl) (by kernel_rfl) (by kernel_rfl) (by kernel_rfl) (fun _ _ _ h => h) (Or.inl ⟨by rfl, ?_⟩) hC0 ?_
                rotate_left
                · intro w hSw; (try dsimp only at hSw); obtain ⟨z0, z1⟩ := hSw; go_simp; (try with_reducible rfl)
                (try simp only [List.getElem_toArray, List.getElem_cons_succ, List.getElem_cons_zero])
                (try simp only [Act.put, List.setIfInBounds_toArray, List.set_cons_zero, List.set_cons_succ])
                refine wpTill_pure (i := 6) (v := ?_) rfl (by kernel_rfl) (by kernel_rfl) (by kernel_rfl) (by kernel_rfl) (fun _ _ _ h => h) (Or.inl ⟨by rfl, ?_⟩) (fun _ => hC0) ?_
                rotate_left
                · intro w hSw; clear hSw; go_simp; (try with_reducible rfl)
                (try simp only [List.getElem_toArray, List.getElem_cons_succ, List.getElem_cons_zero])
                (try simp only [Act.put, List.setIfInBounds_toArray, List.set_cons_zero, List.set_cons_succ])
                refine wpTill_take (i := 7) (v := ?_) rfl (by kernel_rfl) (by kernel_rfl) (by kernel_rfl) (by kernel_rfl) (by kernel_rfl) (by kernel_rfl) (fun _ _ _ h => h) (Or.inl ⟨by rfl, ?_⟩) hC0 ?_
                rotate_left
                · intro w hSw; (try dsimp only at hSw); obtain ⟨z0, z1⟩ := hSw; go_simp; (try with_reducible rfl)
                (try simp only [List.getElem_toArray, List.getElem_cons_succ, List.getElem_cons_zero])
                (try simp only [Act.put, List.setIfInBounds_toArray, List.set_cons_zero, List.set_cons_succ])
                refine wpTill_pure (i := 8) (v := ?_) rfl (by kernel_rfl) (by kernel_rfl) (by kernel_rfl) (by kernel_rfl) (fun _ _ _ h => h) (Or.inl ⟨by rfl, ?_⟩) (fun _ => hC0) ?_
                rotate_left
                · intro w hSw; clear hSw; go_simp; (try with_reducible rfl)
                (try simp only [List.getElem_toArray, List.getElem_cons_succ, List.getElem_cons_zero])
                (try simp only [Act.put, List.setIfInBounds_toArray, List.set_cons_zero, List.set_cons_succ])
                refine wpTill_pure (i := 9) (v := ?_) rfl (by kernel_rfl) (by kernel_rfl) (by kernel_rfl) (by kernel_rfl) (fun _ _ _ h => h) (Or.inl ⟨by rfl, ?_⟩) (fun _ => hC0) ?_
                rotate_left
                · intro w hSw; clear hSw; go_simp; (try with_reducible rfl)
                (try simp only [List.getElem_toArray, List.getElem_cons_succ, List.getElem_cons_zero])
                (try simp only [Act.put, List.setIfInBounds_toArray, List.set_cons_zero, List.set_cons_succ])
                have SD := (unhide HS2).keep bd0
                have l0 := SD.own.cell hxn
                have l1 := SD.own.free x
                obtain ⟨u0, l0⟩ : ∃ u : Value, Wd.cell? ⟨G, x, none⟩ = some u := ⟨_, l0⟩
                have OW := SD.own.set x (dh + z)
                have QW := SD.que.other (p := x) (v := .int .i64 (dh + z)) (Nat.lt_succ_self G)
                have BW := SD.bl.setCell (p := ⟨G, x, none⟩) (unhide HGE) (.int .i64 (dh + z))
                obtain ⟨W3, hW3⟩ : ∃ W, Wd.setCell ⟨G, x, none⟩ (.int .i64 (dh + z)) = W := ⟨_, rfl⟩
                rw [hW3] at OW QW BW
                have HOW := hide OW
                have HQW := hide QW
                have HBW := hide BW
                clear SD OW QW BW
                refine wpTill_one (k := 10) (by kernel_rfl) rfl (fun K hK => ?_)
                (try simp only [List.getElem_toArray, List.getElem_cons_succ, List.getElem_cons_zero])
                go_simp
                refine hK.out _ _ (fun h => absurd (h.symm.trans (by kernel_rfl)) Bool.false_ne_true) ?_
                clear hK K
                (try simp only [Act.put, List.setIfInBounds_toArray, List.set_cons_zero, List.set_cons_succ])
                refine wpTill_done (by kernel_rfl) ?_ _
                clear hC0 bd0 HCC HHH HBX hWd hW3 l0 l1
                have BX := alloc_below W3 (.cells #[.int .i64 (x : Int)] 3)
                have hgx : (W3.alloc (.cells #[.int .i64 (x : Int)] 3)).cell? ⟨W3.heap.size, 0, none⟩ = some (.int .i64 (x : Int)) := by simp only [World.cell?, heap_alloc_new]; rfl
                obtain ⟨bX, hbX⟩ : ∃ b, W3.heap.size = b := ⟨_, rfl⟩
                rw [hbX] at hgx
                obtain ⟨W4, hW4⟩ : ∃ W, W3.alloc (.cells #[.int .i64 (x : Int)] 3) = W := ⟨_, rfl⟩
                rw [hW4] at BX hgx
                have hfew := (unhide HS2).few
                have hcn := Tre.cnt_le (Tre.fnd out2) n
                have QX := (unhide HQW).keep BX
                have OX := (unhide HOW).keep BX
                have hgB := QX.base
                obtain ⟨g3, o3, c3, w5, hrun, QN, grow⟩ := QX.push (by omega) (Nat.le_trans (unhide HOW).lt BX.size) x 31 ⟨bX, 0, none⟩ hgx
                have ON : OwnI w5 G n (updI out2 x (dh + z)) := OX.other (grow.block G OX.lt (fun e => by have := Option.some.inj e; omega))
                have hGE := unhide HGE
                have BN : Below w.heap.size w w5 := Below.grown (below_step (unhide HBW) BX) grow (Nat.le_trans (unhide HBW).size BX.size) (fun k hk => by obtain rfl := Option.some.inj hk; omega)
                have HSN := hide (FS.find (unhide HE) hp (unhide HS2) hlt (unhide HIN) (unhide HO) (unhide HDX) hxn (unhide HVD) ON QN BN)
                have HTN := hide ((unhide HTS).find (x := x) (unhide HVN))
                have HFN := hide ((unhide HT2).find (unhide HVN) (unhide HUN))
                have HON := hide (upd_found (x := x) (unhide HVN) (unhide HO))
                have HKN : Hid (n + (n2 + 1) = K + Tre.cnt (Tre.fnd (updI out2 x (dh + z))) n) := by
                  show _ = _
                  rw [cnt_find (unhide HDX) hxn ((unhide HS2).bd (unhide HE) hp h).1 (unhide HO) ((unhide HE).lpos i hlt) (unhide HVD)]
                  have := unhide HK
                  omega
                clear QX OX QN ON BN grow BX hfew hcn hgB hG1 hb1l hGE
                go_wp2_with (at_builtin; go_loud (refine Go.Lib.wpList_append_run _ rfl _ _ 31 31 rfl _ _ rfl rfl _ _ hrun ?_))
                exact ⟨⟨i + 1, g3, o3, n2 + 1, c3, _, _, rfl, hlt, rfl, unhide HSN, unhide HTN, unhide HFN, unhide HON, unhide HKN⟩, by simp [intOf]; omega⟩
              · have e10 : (dx == (-1 : Int)) = false := by simpa using hfd
                have HFN : Hid (Till m (i + 1) f out2 h) := (unhide HT2).next (fun y hy => by rw [unhide HUN y hy, hdx]; exact hfd)
                clear hfd hdx HUN HIN
                go_wp2
                exact ⟨⟨i + 1, _, _, _, _, _, _, rfl, hlt, rfl, unhide HS2, unhide HTS, unhide HFN, unhide HO, unhide HK⟩, by simp [intOf]; omega⟩
            · rw [hox]
              have HFN : Hid (Till m (i + 1) f out2 h) := (unhide HT2).next (fun y hy => absurd hy (hno y))
              clear hox hno
              go_wp2
              exact ⟨⟨i + 1, _, _, _, _, _, _, rfl, hlt, rfl, unhide HS2, unhide HTS, unhide HFN, unhide HO, unhide HK⟩, by simp [intOf]; omega⟩
          · obtain rfl : i = m := by omega
            have e3 : ¬ (i : Int) < (i : Int) := by omega
            have HS := hide S
            have HFN := hide (T.all T2)
            have HMZ2 := hide (mzr_at S)
            have HK := hide hK
            have HCL : Hid (∀ (o : Nat → Int), Tre.cnt (Tre.fnd o) n ≤ n) := fun o => Tre.cnt_le _ n
            clear S T T2 hO hK
            go_wp2
            refine ⟨⟨_, _, _, _, _, _, rfl, unhide HS, unhide HFN⟩, ?_⟩
            have a1 := unhide HMZ
            have a2 := unhide HMZ2
            have a3 := unhide HK
            have a4 := unhide HK0
            have a5 := unhide HCL out
            have a6 := unhide HCL out2
            omega
end Go.Proofs.YtcmddkekidgkoaaDoor
