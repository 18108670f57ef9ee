/- Chains: what is taken from elsewhere. -/
import Derived.Test.YtcelbgleajpenaaGreatDoorN2z
import Derived.Test.YtcelbgleajpenaaGreatDoorB6
import Derived.Test.YtcelbgleajpenaaGreatDoorA16
namespace Go.Proofs.YtcelbgleajpenaaGreatDoor
open Go.RowKit Go.Sort Go.Shelf

/-- The sign of a comparison. -/
def cmpv (a b : Rat) : Int := Wd.sg (a.num * b.den) (b.num * a.den)
theorem cmpv_lt {a b : Rat} (h : a < b) : cmpv a b = -1 := by
  have h' := Rat.lt_iff a b |>.1 h
  unfold cmpv Wd.sg
  rw [if_pos h']
theorem cmpv_ge {a b : Rat} (h : b ≤ a) : 0 ≤ cmpv a b ∧ cmpv a b ≤ 1 := by
  have h' := Rat.le_iff b a |>.1 h
  unfold cmpv
  exact sg_ge h'
theorem cmpv_le {a b : Rat} (h : a ≤ b) : -1 ≤ cmpv a b ∧ cmpv a b ≤ 0 := by
  have h' := Rat.le_iff a b |>.1 h
  unfold cmpv Wd.sg
  by_cases e : a.num * b.den < b.num * a.den
  · rw [if_pos e]; exact ⟨by decide, by decide⟩
  · rw [if_neg e, if_pos (by omega)]; exact ⟨by decide, by decide⟩
theorem cmpR_all (va vb : Value) (qa qb : Rat) (w : World) (ha : RatIs w va qa) (hb : RatIs w vb qb) (j : Nat) (ra : RS qa j) (rb : RS qb j) (hj : j ≤ KK) :
    Calls Tryz.prog 83 #[va, vb] w fun e w' => e = .returned (.int .i64 (cmpv qa qb)) ∧ Below w.heap.size w w' :=
  cmpR_any va vb qa qb w ha hb (sm_of ra.1 hj) (sm_of rb.1 hj) (sm_of ra.2 hj) (sm_of rb.2 hj)
theorem cmpv_gt {a b : Rat} (h : b < a) : cmpv a b = 1 := by
  have h' := Rat.lt_iff b a |>.1 h
  unfold cmpv Wd.sg
  rw [if_neg (by omega), if_neg (by omega)]
theorem sign_negz {q : Rat} (h : q < 0) : q.num.sign = -1 := Int.sign_eq_neg_one_of_neg (by
  have := Rat.lt_iff q 0 |>.1 h
  simpa using this)
theorem sign_nn {q : Rat} (h : ¬ q < 0) : 0 ≤ q.num.sign := Int.sign_nonneg_iff.2 (by
  have : ¬ _ := fun x => h (Rat.lt_iff q 0 |>.2 x)
  simpa using this)
theorem sign_ps {q : Rat} (h : 0 < q) : q.num.sign = 1 := Int.sign_eq_one_of_pos (by
  have := Rat.lt_iff 0 q |>.1 h
  simpa using this)
theorem sign_np {q : Rat} (h : ¬ 0 < q) : q.num.sign ≤ 0 := by
  have : ¬ (0 : Int) < q.num := fun x => h (Rat.lt_iff 0 q |>.2 (by simpa using x))
  rcases Int.lt_or_eq_of_le (Int.not_lt.1 this) with a | a
  · rw [Int.sign_eq_neg_one_of_neg a]; decide
  · rw [a]; decide
/-- A question's answer. -/
def AskPost (w : World) (P : Prop) (e : Ending) (w' : World) : Prop := ((P ∧ e = .returned (.bool true)) ∨ (¬ P ∧ e = .returned (.bool false))) ∧ Below w.heap.size w w'
def bf (qs : List Rat) (k : Nat) : Rat := qs[k]!
/-- What Check says of one act, of a state's acts, of states, of a model: 0, or the error's number. -/
def shc (n : Nat) (qs : List Rat) : Int := if qs.length = n then chk qs else 3
theorem qsum_ps (qs : List Rat) : ∀ n, qsum qs n = Bth.ps (fun t => qs[t]!) n
  | 0 => rfl
  | n + 1 => by
    show qsum qs n + _ = Bth.ps _ n + _
    rw [qsum_ps qs n]
theorem num_nn {q : Rat} (h : ¬ q.num < 0) : 0 ≤ q := by
  have : 0 ≤ q.num := by omega
  exact Rat.num_nonneg.1 this
theorem chk_parts {qs : List Rat} (h : chk qs = 0) : (∀ j, j < qs.length → 0 ≤ qs[j]!) ∧ qsum qs qs.length = 1 := by
  unfold chk at h
  by_cases a : qs.length < 1 ∨ 101 < qs.length
  · rw [if_pos a] at h; exact absurd h (by decide)
  rw [if_neg a] at h
  by_cases c : ∃ j, j < qs.length ∧ qs[j]!.num < 0
  · rw [if_pos c] at h; exact absurd h (by decide)
  rw [if_neg c] at h
  by_cases d : qsum qs qs.length = 1
  · exact ⟨fun j hj => num_nn (fun x => c ⟨j, hj, x⟩), d⟩
  · rw [if_neg d] at h; exact absurd h (by decide)
def ErrPost (w : World) (k : Int) (e : Ending) (w' : World) : Prop := e = .returned (errV k) ∧ Below w.heap.size w w'
/-- A row of the call's own, or none. -/
def Fresh (w : World) (v : Value) : Prop := v = .slice none 0 0 ∨ ∃ g n cap, v = .slice (some ⟨g, 0, none⟩) n cap ∧ w.heap.size ≤ g
theorem fresh_of {w wr : World} {v : Value} {n : Nat} {xs : List Value} {T : TypeId} {k : Nat} (h : wr.ownsRow w.heap.size T k v n xs) : Fresh w v := by
  rcases h.2 with ⟨rfl, _⟩ | ⟨g, cap, cur, rfl, hb, _⟩
  · exact Or.inl rfl
  · exact Or.inr ⟨g, _, cap, rfl, hb⟩
def FsPost (w : World) (qs : List Rat) (e : Ending) (w' : World) : Prop := ∃ v, e = .returned v ∧ LawIs w' v qs ∧ Below w.heap.size w w' ∧ Fresh w v
set_option maxHeartbeats 4000000 in
set_option maxRecDepth 100000 in
theorem fs_own (v : Value) (ps : List (Int × Int)) (w : World) (h : PairsAre w v ps) (hl : ps.length ≤ 1099511627776) :
    Calls Tryz.prog 15 #[v] w (FsPost w (pqs ps)) := by
  obtain ⟨a, c, rfl, h1, h2, h4, h3⟩ := h
  obtain ⟨ti, hi, hz0, hz1, hz2⟩ := info_parts Tryz.infoR
  have H3 := hide h3
  have H4 := hide h4
  have HI := hide hi
  have HZ := hide hz0
  clear h3 h4 hi hz0
  go_enter Tryz.func15, Tryz.ntmps15
  go_wp2_with fail
  go_loopw [3, 8] (fun vo vi wr => ∃ (i : Nat) (ts : List Tri), vi = .int .i64 i ∧ i ≤ ps.length ∧ ts.length = i ∧ FsAt w wr w.heap.size vo ts (pqs ps)) (fun _ vi _ => ps.length - (intOf vi).toNat)
  case atStart => exact ⟨0, [], rfl, Nat.zero_le _, rfl, FsAt.start w _⟩
  case round =>
    obtain ⟨i, ts, rfl, hi, hts, T⟩ := hrel
    by_cases hlt : i < ps.length
    · obtain ⟨b, o, rfl, hblt, hcs⟩ := unhide H3 (by omega)
      have ⟨k0, k1⟩ := hcs i hlt
      have ⟨i1, i2⟩ := unhide H4 i hlt
      rw [← T.bl.cell (p := ⟨b, o + i * 2, none⟩) hblt] at k0
      rw [← T.bl.cell (p := ⟨b, o + i * 2 + 1, none⟩) hblt] at k1
      obtain ⟨x, hx⟩ : ∃ x, (ps[i]!).1 = x := ⟨_, rfl⟩
      obtain ⟨y, hy⟩ : ∃ y, (ps[i]!).2 = y := ⟨_, rfl⟩
      have epq : (pqs ps)[ts.length]! = Rat.divInt x (if y = 0 then 1 else y) := by
        rw [hts, ← hx, ← hy]
        simp [pqs, pq, hlt]
      rw [hx] at k0 i1
      rw [hy] at k1 i2
      have T1 := T.keep (alloc_below wr (.cells #[.int .i64 x, .int .i64 y] 51))
      have HF := hide (f_any x y i1.1 i1.2 i2.1 i2.2 (wr.alloc (.cells #[.int .i64 x, .int .i64 y] 51)))
      have hi0 : (0 : Int) ≤ (i : Int) := by omega
      have hi1 : (i : Int) < (ps.length : Int) := by omega
      have HT1 := hide T1
      have HE := hide epq
      have HTS := hide hts
      clear T T1 hcs H3 H4 epq i1 i2 hts hx hy
      go_wp2_with fail
      refine (unhide HF).mono ?_
      rintro e w2 ⟨v2, rfl, hv2, hb2⟩
      obtain ⟨t, rfl, hr2⟩ := tri_of hv2
      rw [← unhide HE] at hr2
      have T2 := ((unhide HT1).keep hb2).keep (alloc_below w2 (.cells #[.bool t.s, .slice t.a1 t.n1 t.c1, .slice t.a2 t.n2 t.c2] 37))
      have hr3 := hr2.below (alloc_below w2 (.cells #[.bool t.s, .slice t.a1 t.n1 t.c1, .slice t.a2 t.n2 t.c2] 37))
      have hlen56 : (ts.length + 1) * 56 ≤ 140737488355328 := by have := unhide HTS; omega
      have hlen63 : ts.length + 1 ≤ maxLen := by have := unhide HTS; unfold maxLen; omega
      have hbase : w.heap.size ≤ (w2.alloc (.cells #[.bool t.s, .slice t.a1 t.n1 t.c1, .slice t.a2 t.n2 t.c2] 37)).heap.size := T2.bl.size
      have hsz2 : (w2.alloc (.cells #[.bool t.s, .slice t.a1 t.n1 t.c1, .slice t.a2 t.n2 t.c2] 37)).heap.size = w2.heap.size + 1 := by rw [alloc_heap, Array.size_push]
      have HT2 := hide T2
      have HR3 := hide hr3
      have HBA := hide hbase
      have HSZ := hide hsz2
      have HL56 := hide hlen56
      have HL63 := hide hlen63
      simp only [Tri.val]
      clear T2 hr3 hr2 hbase hsz2 hlen56 hlen63 hv2 hb2 HT1 HF
      go_wp2_with (at_builtin; go_loud (refine wpList_append_tri _ rfl _ _ _ rfl w.heap.size 37 ti 56 Tryz.underlying42 (unhide HI) (unhide HZ) hz1 hz2 _ ts.length (tcells ts) rfl (unhide HT2).own (unhide HT2).no ⟨w2.heap.size, 0, none⟩ 1 1 t.cells rfl rfl (news_tri w2 t _) (tri_one t) t.notWord (by decide) (unhide HL63) (unhide HL56) (unhide HBA) (w2.heap.size + 1) (unhide HSZ) ?_; intro g cap w4 hown4 hgrow hat hlt4 hno4))
      have FIN := hide ((unhide HT2).push (unhide HR3) hown4 hgrow hno4 (unhide HBA))
      clear hown4 hgrow hat hno4 HT2 HR3
      go_wp2_with fail
      exact ⟨⟨i + 1, ts ++ [t], by go_num, hlt, by rw [List.length_append, unhide HTS]; rfl, unhide FIN⟩, by simp [intOf]; omega⟩
    · obtain rfl : i = ps.length := by omega
      have L := law_of_owns T.own (by rw [hts, pqs_length]) T.rat
      have HB := hide T.bl
      have HL := hide L
      have HF : Hid (Fresh w u3) := fresh_of T.own
      clear T H3 H4 L
      go_wp2
      (try simp only [Exit.inBlock, Exit.then])
      exact bodyPost_ret (v := u3) (by simp [results, Tryz.results15, go_sem]) rfl ⟨_, rfl, unhide HL, unhide HB, unhide HF⟩
theorem pairs_len {w : World} {l : Sl} {ps : List (Int × Int)} (h : PairsAre w l.val ps) : l.n = ps.length := by
  obtain ⟨a, c, e, _⟩ := h
  injection e
/-- A row of rows of pairs. -/
def PRowsAre (w : World) (v : Value) (pss : List (List (Int × Int))) : Prop := ∃ (a : Option Addr) (c : Nat), v = .slice a pss.length c ∧ pss.length ≤ c ∧ c ≤ 9223372036854775807 ∧
  (0 < pss.length → ∃ b o, a = some ⟨b, o, none⟩ ∧ b < w.heap.size ∧ ∀ j, j < pss.length → ∃ l : Sl, w.cell? ⟨b, o + j, none⟩ = some (.slice l.a l.n l.c) ∧ PairsAre w l.val pss[j]!)
theorem PRowsAre.below {w w' : World} {v : Value} {ps : List (List (Int × Int))} (h : PRowsAre w v ps) (hb : Below w.heap.size w w') : PRowsAre w' v ps := by
  obtain ⟨a, c, e, h1, h2, h3⟩ := h
  refine ⟨a, c, e, h1, h2, fun hp => ?_⟩
  obtain ⟨b, o, ea, hlt, hc⟩ := h3 hp
  refine ⟨b, o, ea, Nat.lt_of_lt_of_le hlt hb.size, fun j hj => ?_⟩
  obtain ⟨l, k, p⟩ := hc j hj
  refine ⟨l, ?_, p.below hb⟩
  rw [hb.cell (p := ⟨b, o + j, none⟩) hlt]
  exact k
/-- Not greater than a call may read. -/
def SmP (pss : List (List (Int × Int))) : Prop := pss.length ≤ 1048576 ∧ ∀ j, j < pss.length → (pss[j]!).length ≤ 1048576
/-- The rows that they make. -/
def pqss (pss : List (List (Int × Int))) : List (List Rat) := pss.map pqs
theorem pqss_length (pss : List (List (Int × Int))) : (pqss pss).length = pss.length := by simp [pqss]
theorem pqss_get {pss : List (List (Int × Int))} {j : Nat} (h : j < pss.length) : (pqss pss)[j]! = pqs pss[j]! := by simp [pqss, h]
/-- The lengths of the first k rows together. -/
def lsum (pss : List (List (Int × Int))) : Nat → Nat
  | 0 => 0
  | k + 1 => lsum pss k + (pss[k]!).length
theorem lsum_le {pss : List (List (Int × Int))} (sm : SmP pss) : ∀ k, k ≤ pss.length → lsum pss k ≤ k * 1048576
  | 0, _ => Nat.zero_le _
  | k + 1, h => by
    have := lsum_le sm k (by omega)
    have := sm.2 k (by omega)
    show lsum pss k + _ ≤ _
    rw [Nat.succ_mul]
    omega
theorem lsum_mono (pss : List (List (Int × Int))) : ∀ {a b : Nat}, a ≤ b → lsum pss a ≤ lsum pss b
  | a, 0, h => by obtain rfl : a = 0 := by omega
                  exact Nat.le_refl _
  | a, b + 1, h => by
    by_cases e : a = b + 1
    · rw [e]; exact Nat.le_refl _
    · have := lsum_mono pss (a := a) (b := b) (by omega)
      show lsum pss a ≤ lsum pss b + _
      omega
theorem lsum_one (pss : List (List (Int × Int))) {j : Nat} (h : j < pss.length) : (pss[j]!).length ≤ lsum pss pss.length := by
  have := lsum_mono pss (a := j + 1) (b := pss.length) h
  have e : lsum pss (j + 1) = lsum pss j + (pss[j]!).length := rfl
  omega
def tot (pss : List (List (Int × Int))) : Nat := pss.length + lsum pss pss.length
def WideP (pss : List (List (Int × Int))) (m : Nat) : Prop := m < tot pss
theorem cell_other {w : World} {a b : Addr} {v : Value} (h : a.block ≠ b.block) : (w.setCell b v).cell? a = w.cell? a := by
  simp only [World.cell?]
  rw [Below.heap_setCell _ _ _ _ h]
/-- A row of numbers that is read. -/
def NRow (w : World) (v : Value) (n : Nat) (f : Nat → Int) : Prop := ∃ (a : Option Addr) (c : Nat), v = .slice a n c ∧ n ≤ c ∧ c ≤ 9223372036854775807 ∧ (0 < n → ∃ b o, a = some ⟨b, o, none⟩ ∧ b < w.heap.size ∧ ∀ j, j < n → w.cell? ⟨b, o + j, none⟩ = some (.int .i64 (f j)))
theorem NRow.below {w w' : World} {v : Value} {n : Nat} {f : Nat → Int} (h : NRow w v n f) (hb : Below w.heap.size w w') : NRow w' v n f := by
  obtain ⟨a, c, e, h1, h2, h3⟩ := h
  refine ⟨a, c, e, h1, h2, fun hp => ?_⟩
  obtain ⟨b, o, ea, hlt, hc⟩ := h3 hp
  exact ⟨b, o, ea, Nat.lt_of_lt_of_le hlt hb.size, fun j hj => by rw [hb.cell (p := ⟨b, o + j, none⟩) hlt]; exact hc j hj⟩
/-- A region walked by states: wherever it isn't at an end, each operation that is ready leads on. -/
theorem walk_anyz {P : Program} {ops : Array Oper} {Q : Exit → Act → World → Prop} {C : World → Prop} {md : Region.Mode} {S : Type} (mk : S → Array Bool) (fuel : S → Nat) (fin : S → Bool) (next : S → Nat → Option S) (I : S → Act → World → Prop)
    (hne : ∀ s, fin s = false → (Region.ready md ops (mk s)).isEmpty = false)
    (hck : ∀ s, fin s = false → (Region.ready md ops (mk s)).all (fun i => match next s i with | some s' => ((mk s).setIfInBounds i true == mk s') && (fuel s == fuel s' + 1) | none => false) = true)
    (hst : ∀ s i s', next s i = some s' → ∀ a w, I s a w → wpOp P ops Q i (fun a' w' => C w' ∧ I s' a' w') a w)
    (hf : ∀ s, fin s = true → ∀ a w, I s a w → wpHold P md ops Q C (fuel s) (mk s) a w) :
    ∀ n s, fuel s = n → ∀ a w, I s a w → wpHold P md ops Q C n (mk s) a w := by
  have hr : ∀ s, fin s = false → ∀ i ∈ Region.ready md ops (mk s), ∃ s', (mk s).setIfInBounds i true = mk s' ∧ fuel s = fuel s' + 1 ∧ ∀ a w, I s a w → wpOp P ops Q i (fun a' w' => C w' ∧ I s' a' w') a w := fun s e i hi => by
    have hk := List.all_eq_true.1 (hck s e) i hi
    cases en : next s i with
    | none => rw [en] at hk; cases hk
    | some s' =>
      rw [en] at hk
      simp only [Bool.and_eq_true, beq_iff_eq] at hk
      exact ⟨s', hk.1, hk.2, hst s i s' en⟩
  intro n
  induction n with
  | zero =>
    intro s hs a w h
    cases e : fin s with
    | true => rw [← hs]; exact hf s e a w h
    | false =>
      have hn := hne s e
      cases el : Region.ready md ops (mk s) with
      | nil => rw [el] at hn; cases hn
      | cons i r =>
        obtain ⟨s', _, h2, _⟩ := hr s e i (by rw [el]; exact List.mem_cons_self ..)
        omega
  | succ n ih =>
    intro s hs a w h
    cases e : fin s with
    | true => rw [← hs]; exact hf s e a w h
    | false =>
      have hn := hne s e
      refine ⟨fun e' => (by rw [e'] at hn; cases hn), fun i hi => ?_⟩
      obtain ⟨s', h1, h2, h3⟩ := hr s e i hi
      exact wpOp_mono (fun a' w' h' => ⟨h'.1, by rw [h1]; exact ih s' (by omega) a' w' h'.2⟩) (h3 a w h)
/-- Two operations in any order, and the assignment of the first. -/
def nx3 (i j k : Nat) (s : Bool × Bool × Bool) (m : Nat) : Option (Bool × Bool × Bool) := if m = i ∧ s.1 = false then some (true, s.2.1, s.2.2) else if m = j ∧ s.2.1 = false then some (s.1, true, s.2.2) else if m = k ∧ s.1 = true ∧ s.2.2 = false then some (s.1, s.2.1, true) else none
def fu3 (r : Nat) (s : Bool × Bool × Bool) : Nat := r + (if s.1 = true then 0 else 1) + (if s.2.1 = true then 0 else 1) + (if s.2.2 = true then 0 else 1)
theorem two_any {P : Program} {ops : Array Oper} {Q : Exit → Act → World → Prop} {C : World → Prop} {md : Region.Mode} (mk : Bool × Bool × Bool → Array Bool) (r i j k : Nat) (I : Bool → Bool → Bool → Act → World → Prop)
    (hne : ∀ s : Bool × Bool × Bool, (s.1 && s.2.1 && s.2.2) = false → (Region.ready md ops (mk s)).isEmpty = false)
    (hck : ∀ s : Bool × Bool × Bool, (s.1 && s.2.1 && s.2.2) = false → (Region.ready md ops (mk s)).all (fun m => match nx3 i j k s m with | some s' => ((mk s).setIfInBounds m true == mk s') && (fu3 r s == fu3 r s' + 1) | none => false) = true)
    (hA : ∀ y z a w, I false y z a w → wpOp P ops Q i (fun a' w' => C w' ∧ I true y z a' w') a w)
    (hB : ∀ x z a w, I x false z a w → wpOp P ops Q j (fun a' w' => C w' ∧ I x true z a' w') a w)
    (hK : ∀ y a w, I true y false a w → wpOp P ops Q k (fun a' w' => C w' ∧ I true y true a' w') a w)
    (hf : ∀ a w, I true true true a w → wpHold P md ops Q C r (mk (true, true, true)) a w) : ∀ a w, I false false false a w → wpHold P md ops Q C (r + 3) (mk (false, false, false)) a w := by
  intro a w h
  refine walk_anyz mk (fu3 r) (fun s => s.1 && s.2.1 && s.2.2) (nx3 i j k) (fun s a w => I s.1 s.2.1 s.2.2 a w) hne ?_ ?_ ?_ (r + 3) (false, false, false) rfl a w h
  · intro s hs
    have h1 := hck s hs
    rw [List.all_eq_true] at h1 ⊢
    intro m hm
    have h2 := h1 m hm
    cases e : nx3 i j k s m with
    | none => rw [e] at h2; cases h2
    | some s' => rw [e] at h2; exact h2
  · rintro ⟨x, y, z⟩ m s' hs a w h
    unfold nx3 at hs
    by_cases h1 : m = i ∧ x = false
    · obtain ⟨rfl, rfl⟩ := h1
      rw [if_pos ⟨rfl, rfl⟩] at hs
      injection hs with hs
      subst hs
      exact hA y z a w h
    · rw [if_neg h1] at hs
      by_cases h2 : m = j ∧ y = false
      · obtain ⟨rfl, rfl⟩ := h2
        rw [if_pos ⟨rfl, rfl⟩] at hs
        injection hs with hs
        subst hs
        exact hB x z a w h
      · rw [if_neg h2] at hs
        by_cases h3 : m = k ∧ x = true ∧ z = false
        · obtain ⟨rfl, rfl, rfl⟩ := h3
          rw [if_pos ⟨rfl, rfl, rfl⟩] at hs
          injection hs with hs
          subst hs
          exact hK y a w h
        · rw [if_neg h3] at hs; cases hs
  · rintro ⟨x, y, z⟩ hs a w h
    cases x with
    | false => cases hs
    | true => cases y with
      | false => cases hs
      | true => cases z with
        | false => cases hs
        | true => exact hf a w h
/-- What two operations yield, whichever was first. -/
structure TwoK (PA PB : World → Value → Prop) (PAB : World → Value → Value → Prop) (w0 : World) (x y : Bool) (W : World) (s1 s2 : Value) : Prop where
  bl : Below w0.heap.size w0 W
  ra : x = true → PA W s1
  rb : y = true → PB W s2
  rab : x = true → y = true → PAB W s1 s2
/-- The mean of values. -/
def mv (qs xs : List Rat) (k : Nat) : Rat := Bth.ps (fun t => qs[t]! * xs[t]!) k
theorem mv_RS {qs xs : List Rat} {J : Nat} (h : ∀ j, j < qs.length → RS qs[j]! 1) (hx : ∀ j, j < qs.length → RS xs[j]! J) (k : Nat) (hk : k ≤ qs.length) : RS (mv qs xs k) (k * (J + 2) + 1) := by
  induction k with
  | zero => exact RS.zero.mono (by omega)
  | succ k ih => exact RS.mono ((ih (by omega)).add ((h k (by omega)).mul (hx k (by omega)))) (by rw [Nat.succ_mul]; omega)
/-- A row of the call's own, where another row is written. -/
theorem SumsAt.apart' {w wr : World} {g g2 : Nat} {us us2 : List Tri} {qs : List Rat} {T : TypeId} (h : SumsAt w wr g us qs) (hg : wr.heap[g2]? = some (.cells (tcells us2).toArray T)) (hne : g ≠ g2) (hge : w.heap.size ≤ g2) (i0 i1 i2 : Nat) (x0 x1 x2 : Value) :
    SumsAt w (((wr.setCell ⟨g2, i0, none⟩ x0).setCell ⟨g2, i1, none⟩ x1).setCell ⟨g2, i2, none⟩ x2) g us qs :=
  ⟨by rw [Below.heap_setCell _ _ _ _ hne, Below.heap_setCell _ _ _ _ hne, Below.heap_setCell _ _ _ _ hne]; exact h.row, h.len, fun j hj => (h.rat j hj).rowed hg _ _ _ _ _ _, ((h.bl.setCell hge _).setCell hge _).setCell hge _, h.gl⟩
theorem pqs_get {l : List (Int × Int)} {t : Nat} (h : t < l.length) : (pqs l)[t]! = pq l[t]! := by simp [pqs, h]
theorem pqs_RS {w : World} {v : Value} {qs : List (Int × Int)} (h : PairsAre w v qs) (t : Nat) (ht : t < (pqs qs).length) : RS (pqs qs)[t]! 1 := by
  rw [pqs_length] at ht
  obtain ⟨_, _, _, _, _, h6, _⟩ := h
  rw [pqs_get ht]
  exact pq_RS (h6 t ht).1 (h6 t ht).2
/-- A row of rows of the call's own, whose rows lie elsewhere. -/
structure HdAt (w wr : World) (G n c : Nat) (ls : Nat → Sl) : Prop where
  out : wr.heap[G]? = some (.cells (hdl n c ls).toArray 42)
  gl : w.heap.size ≤ G
  bl : Below w.heap.size w wr
theorem HdAt.lt {w wr : World} {G n c : Nat} {ls : Nat → Sl} (h : HdAt w wr G n c ls) : G < wr.heap.size := (Array.getElem?_eq_some_iff.1 h.out).1
theorem HdAt.push {w wr : World} {G n c : Nat} {ls : Nat → Sl} (h : HdAt w wr G n c ls) (l : Sl) : HdAt w (wr.setCell ⟨G, c, none⟩ (.slice l.a l.n l.c)) G n (c + 1) (upl ls c l) := by
  have o1 := hdl_write h.out c (.slice l.a l.n l.c)
  have e : ∀ i, i < c → ls i = upl ls c l i := fun i hi => by unfold upl; rw [if_neg (by omega)]
  have ev : Value.slice l.a l.n l.c = Sl.val (upl ls c l c) := by unfold upl; rw [if_pos rfl]; rfl
  have o2 : (hdl n c ls).set c (.slice l.a l.n l.c) = hdl n (c + 1) (upl ls c l) := by rw [ev, ← hdl_push, hdl_congr e]
  rw [o2] at o1
  exact ⟨o1, h.gl, h.bl.setCell h.gl _⟩
theorem HdAt.rows {w wr : World} {G n : Nat} {ls : Nat → Sl} {ks : List (List Rat)} (h : HdAt w wr G n n ls) (hk : ks.length = n) (hn : n ≤ 1000) (hl : ∀ i, i < n → LawIs wr (ls i).val ks[i]!) : RowsAre wr (.slice (some ⟨G, 0, none⟩) n n) ks := by
  refine ⟨some ⟨G, 0, none⟩, n, by rw [hk], by omega, by omega, fun hp => ⟨G, 0, rfl, h.lt, fun j hj => ⟨ls j, ?_, hl j (by omega)⟩⟩⟩
  rw [Nat.zero_add]
  exact hdl_cell h.out (by omega) (by omega)

theorem HdAt.keep {w wr w' : World} {G n c : Nat} {ls : Nat → Sl} (h : HdAt w wr G n c ls) (hb : Below wr.heap.size wr w') : HdAt w w' G n c ls := ⟨by rw [hb.block _ h.lt]; exact h.out, h.gl, below_step h.bl hb⟩
/-- A row stays where a row of rows is written. -/
theorem LawIs.headed {w : World} {G n c i : Nat} {ls : Nat → Sl} {v : Value} {qs : List Rat} {T : TypeId} (h : LawIs w v qs) (hg : w.heap[G]? = some (.cells (hdl n c ls).toArray T)) (x : Value) : LawIs (w.setCell ⟨G, i, none⟩ x) v qs := by
  obtain ⟨a, c', e, h1, h2, h3⟩ := h
  refine ⟨a, c', e, h1, h2, fun hp => ?_⟩
  obtain ⟨b, o, ea, hlt, hc⟩ := h3 hp
  have nb : b ≠ G := fun eb => by
    obtain ⟨s, a1, a2, n1, c1, n2, c2, k0, _⟩ := hc 0 hp
    rw [eb] at k0
    simp only [World.cell?, hg] at k0
    have hm : Value.bool s ∈ hdl n c ls := by
      have k1 : (hdl n c ls)[o + 0 * 3]? = some (.bool s) := by simpa using k0
      exact List.mem_of_getElem? k1
    obtain ⟨j, _, ej⟩ := List.mem_map.1 hm
    by_cases hj : j < c
    · rw [if_pos hj] at ej; cases ej
    · rw [if_neg hj] at ej; cases ej
  refine ⟨b, o, ea, by rw [show (w.setCell ⟨G, i, none⟩ x).heap.size = w.heap.size by simp [World.setCell]]; exact hlt, fun j hj => ?_⟩
  obtain ⟨s, a1, a2, n1, c1, n2, c2, k0, k1, k2, r⟩ := hc j hj
  refine ⟨s, a1, a2, n1, c1, n2, c2, ?_, ?_, ?_, r.headed hg i x⟩
  · rw [cell_other nb]; exact k0
  · rw [cell_other nb]; exact k1
  · rw [cell_other nb]; exact k2
/-- The first places of a row of the call's own. -/
theorem SumsAt.law_take {w wr : World} {g : Nat} {us : List Tri} {qs : List Rat} (h : SumsAt w wr g us qs) (hc : us.length ≤ 9223372036854775807) {n : Nat} (hn : n ≤ us.length) {ps : List Rat} (hl : ps.length = n) (he : ∀ j, j < n → ps[j]! = qs[j]!) : LawIs wr (.slice (some ⟨g, 0, none⟩) n us.length) ps := by
  obtain ⟨a, c, e, h1, h2, h3⟩ := h.law hc
  have hq : us.length = qs.length := by injection e
  injection e with e1 e2 e3
  subst e3
  refine ⟨_, _, by rw [hl], by omega, hc, fun hp => ?_⟩
  obtain ⟨b, o, ea, hlt, hcs⟩ := h3 (by omega)
  refine ⟨b, o, by rw [e1]; exact ea, hlt, fun j hj => ?_⟩
  obtain ⟨s, a1, a2, n1, c1, n2, c2, k0, k1, k2, r⟩ := hcs j (by omega)
  exact ⟨s, a1, a2, n1, c1, n2, c2, k0, k1, k2, by rw [he j (by omega)]; exact r⟩
/-- An append that makes a new block, told cell by cell. -/
theorem wpList_append_new {P : Program} (w : World) {ops : Array Oper} {rest : List Oper} {o : Oper} {a : Act} {Q : Exit → Act → World → Prop} (hgd : o.guard = none) (s x : Operand) (t : TypeId)
    (ho : o.op = .call { callee := .builtin .append, args := #[s, x], argTypes := #[t, t] }) (e : TypeId) (i : TypeInfo) (z : Value) (bytes : Nat) (ht : P.underlying t = some (.slice e)) (hi : P.info? e = some i) (hz : i.zero = some z) (hsize : i.size = 3) (hby : i.bytes = bytes)
    (b : Addr) (hs : a.eval s = .slice (some b) 0 0) (ad : Addr) (m c : Nat) (news : List Value) (hx : a.eval x = .slice (some ad) m c) (hl : news.length = m * 3) (hnews : ∀ j u, news[j]? = some u → w.cell? (ad.add j) = some u) (hm : 0 < m) (h63 : m ≤ maxLen) (hbytes : m * bytes ≤ 140737488355328)
    (h : ∀ cap, m ≤ cap → cap ≤ maxLen → wpList P ops Q rest (a.put o.dst (.slice (some ⟨w.heap.size, 0, none⟩) m cap)) (w.drew.alloc (.cells (news.toArray ++ Builtin.zeroCells z.cells (cap - m)) e))) : wpList P ops Q (o :: rest) a w := by
  have hmx : m ≤ 9223372036854775807 := h63
  refine wpList_plain hgd fun K hK => ?_
  subst hby
  have hr := run_append_grow (P := P) w t o.type e i z ht hi hz b 0 0 [] (by simp) (fun j v hv => by simp at hv) ad m c news (by rw [hsize]; exact hl) hnews (by omega) (by omega) (growslice_fits (by omega) (by rw [Nat.zero_add]; exact hbytes))
  rw [Nat.zero_add] at hr
  have hge := grownCap_ge w m 0 e
  have hle := grownCap_le_maxLen w m 0 e h63
  have e0 : ([] : List Value).toArray ++ news.toArray = news.toArray := by simp
  rw [e0] at hr
  unfold Oper.wp execOp
  simp only [ho, resolve, invoke, builtin, Sem.run_bind, Sem.run_pure, Result.andThen_ok, List.map_toArray, List.map_cons, List.map_nil, hs, hx, hr]
  exact hK _ _ (h _ hge hle)
theorem zero_tcells (k : Nat) : Builtin.zeroCells zR k = (tcells (List.replicate k zTri)).toArray := by
  rw [zcells]
  apply Array.ext'
  simp [Builtin.zeroCells, zR]
theorem tcells_app (us vs : List Tri) : tcells (us ++ vs) = tcells us ++ tcells vs := by simp [tcells]
end Go.Proofs.YtcelbgleajpenaaGreatDoor
