/- A text of a fraction is cut, and read. -/
import Derived.Test.YtdicbnchkfclaaaDoorB10
import Derived.Test.YtdicbnchkfclaaaDoorB5
import Derived.Laws.OwnMore
namespace Go.Proofs.YtdicbnchkfclaaaDoor
open Go.RowKit Go.Sort Go.Shelf Go.Dd

theorem extract_list (s : ByteArray) (a b : Nat) : (s.extract a b).data.toList = (s.data.toList.drop a).take (b - a) := by
  rw [ByteArray.data_extract, Array.toList_extract, List.extract_eq_take_drop]
theorem extract_drop (s : ByteArray) (a : Nat) : (s.extract a s.size).data.toList = s.data.toList.drop a := by
  rw [extract_list, List.take_of_length_le (by rw [List.length_drop, Array.length_toList]; exact Nat.le_refl _)]

set_option maxHeartbeats 2000000 in
set_option maxRecDepth 100000 in
theorem cut_whole (s : ByteArray) (f : Nat) (w : World) (hf : f = 0 ∨ f = 1) (hp : Lib.hasPrefix s.data.toList [45] = decide (f = 1)) (hfk : f < s.size) (hd1 : ∀ j (h : j < s.size), f ≤ j → IsDig s[j]) (hsz : s.size ≤ 1000) :
    Calls Tryd.prog 56 #[.string s] w fun e w' => ∃ o : ByteArray, e = .returned (.tuple #[.string o, .string ⟨#[49]⟩, .nilIface]) ∧ o.data.toList = s.data.toList.drop f ∧ w' = w := by
  have HD := hide hd1
  have HP := hide (Tryd.strings_HasPrefix s ⟨#[45]⟩ w)
  have e45 : (⟨#[45]⟩ : ByteArray).data.toList = [45] := rfl
  rw [e45, hp] at HP
  have HE := hide (digitsEnd_any s f w (by omega) (by omega))
  clear hd1 hp e45
  have z1 : ((s.size : Int) == (f : Int)) = false := by rw [beq_eq_false_iff_ne]; omega
  rcases hf with rfl | rfl
  · go_enter Tryd.func56, Tryd.ntmps56
    go_wp2_with fail
    refine (unhide HP).mono ?_
    rintro e w' ⟨rfl, hw'⟩
    obtain rfl := hw'.symm
    go_wp2_with fail
    refine (unhide HE).mono ?_
    rintro e w' ⟨k, rfl, hk1, hk2, _, hk4, hw'⟩
    obtain rfl := hw'.symm
    have hk : k = s.size := by
      rcases Nat.lt_or_ge k s.size with h | h
      · exact absurd (unhide HD k h hk1) (hk4 h)
      · omega
    subst hk
    clear hk4 HE HP
    go_wp2
    go_ret3
    exact ⟨s, rfl, rfl, rfl⟩
  · go_enter Tryd.func56, Tryd.ntmps56
    go_wp2_with fail
    refine (unhide HP).mono ?_
    rintro e w' ⟨rfl, hw'⟩
    obtain rfl := hw'.symm
    go_wp2_with fail
    refine (unhide HE).mono ?_
    rintro e w' ⟨k, rfl, hk1, hk2, _, hk4, hw'⟩
    obtain rfl := hw'.symm
    have hk : k = s.size := by
      rcases Nat.lt_or_ge k s.size with h | h
      · exact absurd (unhide HD k h hk1) (hk4 h)
      · omega
    subst hk
    clear hk4 HE HP
    go_wp2
    go_ret3
    exact ⟨s.extract 1 s.size, rfl, extract_drop s 1, rfl⟩

set_option maxHeartbeats 2000000 in
set_option maxRecDepth 100000 in
theorem cut_frac (s : ByteArray) (f k : Nat) (w : World) (hf : f = 0 ∨ f = 1) (hp : Lib.hasPrefix s.data.toList [45] = decide (f = 1)) (hfk : f < k) (hk : k + 1 < s.size) (hks : k < s.size) (h47 : s[k] = 47)
    (hd1 : ∀ j (h : j < s.size), f ≤ j → j < k → IsDig s[j]) (hd2 : ∀ j (h : j < s.size), k < j → IsDig s[j]) (hsz : s.size ≤ 1000) :
    Calls Tryd.prog 56 #[.string s] w fun e w' => ∃ o : ByteArray, e = .returned (.tuple #[.string o, .string (s.extract (k + 1) s.size), .nilIface]) ∧ o.data.toList = (s.data.toList.drop f).take (k - f) ∧ ∃ q, w' = w.drewN q := by
  have HD1 := hide hd1
  have HD2 := hide hd2
  have HP := hide (Tryd.strings_HasPrefix s ⟨#[45]⟩ w)
  have e45 : (⟨#[45]⟩ : ByteArray).data.toList = [45] := rfl
  rw [e45, hp] at HP
  have HE := hide (digitsEnd_any s f w (by omega) (by omega))
  have HE2 := hide (digitsEnd_any s (k + 1) w (by omega) (by omega))
  have h47' : (s[k].toNat : Int) = 47 := by rw [h47]; rfl
  have hnd : ¬ IsDig s[k] := by rw [h47]; unfold IsDig; decide
  have HND := hide hnd
  have H47 := hide h47'
  clear hd1 hd2 hp e45 h47 h47' hnd
  have z1 : ((k : Int) == (f : Int)) = false := by rw [beq_eq_false_iff_ne]; omega
  have z2 : ((k : Int) == (s.size : Int)) = false := by rw [beq_eq_false_iff_ne]; omega
  have z3 : ((s.size : Int) == (k : Int) + 1) = false := by rw [beq_eq_false_iff_ne]; omega
  obtain ⟨x, hx⟩ : ∃ x, (s[k].toNat : Int) = x := ⟨_, rfl⟩
  have hx47 : x = 47 := by rw [← hx]; exact unhide H47
  have z4 : ((s[k].toNat : Int) != 47) = false := by rw [hx, hx47]; rfl
  clear hx hx47 H47
  rcases hf with rfl | rfl
  · go_enter Tryd.func56, Tryd.ntmps56
    go_wp2_with fail
    refine (unhide HP).mono ?_
    rintro e w' ⟨rfl, hw'⟩
    obtain rfl := hw'.symm
    go_wp2_with fail
    refine (unhide HE).mono ?_
    rintro e w' ⟨k', rfl, hk1, hk2, hk3, hk4, hw'⟩
    obtain rfl := hw'.symm
    have hkk : k' = k := by
      rcases Nat.lt_trichotomy k' k with h | h | h
      · exact absurd (unhide HD1 k' (by omega) hk1 h) (hk4 (by omega))
      · exact h
      · exact absurd (hk3 k hks (by omega) h) (unhide HND)
    subst hkk
    clear hk3 hk4 HE HP HND HD1
    go_wp2_with fail
    refine (unhide HE2).mono ?_
    rintro e w' ⟨k2, rfl, hj1, hj2, _, hj4, hw'⟩
    obtain rfl := hw'.symm
    have hkk : k2 = s.size := by
      rcases Nat.lt_or_ge k2 s.size with h | h
      · exact absurd (unhide HD2 k2 h (by omega)) (hj4 h)
      · omega
    subst hkk
    clear hj4 HE2 HD2
    go_wp2_with fail
    go_quiet (fail)
    go_wp2
    go_ret3
    exact ⟨s.extract 0 k', rfl, extract_list s 0 k', _, rfl⟩
  · go_enter Tryd.func56, Tryd.ntmps56
    go_wp2_with fail
    refine (unhide HP).mono ?_
    rintro e w' ⟨rfl, hw'⟩
    obtain rfl := hw'.symm
    go_wp2_with fail
    refine (unhide HE).mono ?_
    rintro e w' ⟨k', rfl, hk1, hk2, hk3, hk4, hw'⟩
    obtain rfl := hw'.symm
    have hkk : k' = k := by
      rcases Nat.lt_trichotomy k' k with h | h | h
      · exact absurd (unhide HD1 k' (by omega) hk1 h) (hk4 (by omega))
      · exact h
      · exact absurd (hk3 k hks (by omega) h) (unhide HND)
    subst hkk
    clear hk3 hk4 HE HP HND HD1
    go_wp2_with fail
    refine (unhide HE2).mono ?_
    rintro e w' ⟨k2, rfl, hj1, hj2, _, hj4, hw'⟩
    obtain rfl := hw'.symm
    have hkk : k2 = s.size := by
      rcases Nat.lt_or_ge k2 s.size with h | h
      · exact absurd (unhide HD2 k2 h (by omega)) (hj4 h)
      · omega
    subst hkk
    clear hj4 HE2 HD2
    go_wp2_with fail
    go_quiet (fail)
    go_wp2
    go_ret3
    exact ⟨s.extract 1 k', rfl, extract_list s 1 k', _, rfl⟩
end Go.Proofs.YtdicbnchkfclaaaDoor
/- A text of a fraction is read. -/
namespace Go.Proofs.YtdicbnchkfclaaaDoor
open Go.RowKit Go.Sort Go.Shelf Go.Dd

set_option maxHeartbeats 4000000 in
set_option maxRecDepth 100000 in
theorem parse_core (s : ByteArray) (neg : Bool) (D1 D2 : List UInt8) (U : Nat) (w : World) (hs0 : 0 < s.size) (hneg : ((s[0].toNat : Int) == 45) = neg) (h1 : ∀ b, b ∈ D1 → IsDig b) (h2 : ∀ b, b ∈ D2 → IsDig b) (hl1 : D1.length ≤ 40) (hl2 : D2.length ≤ 40)
    (hU : dval 0 D2 = U) (hU0 : U ≠ 0) (hUw : (U : Int) < 18446744073709551616)
    (HC : ∀ w1, Calls Tryd.prog 56 #[.string s] w1 fun e w' => ∃ o u : ByteArray, e = .returned (.tuple #[.string o, .string u, .nilIface]) ∧ o.data.toList = D1 ∧ u.data.toList = D2 ∧ ∃ q, w' = w1.drewN q) :
    Calls Tryd.prog 28 #[.string s] w fun e w' => ∃ v, e = .returned (.tuple #[v, .nilIface]) ∧ RatIs w' v (mkRat (sn neg (dval 0 D1)) U) ∧ Below w.heap.size w w' := by
  have HC' := hide HC
  have N1 := hide h1
  have N2 := hide h2
  have HU := hide hU

  have s0 : (0 : Int) < s.size := by omega
  clear HC h1 h2 hU
  obtain ⟨W, hW⟩ : ∃ W, w.alloc (.cells #[.bool false, .slice none 0 0, .slice none 0 0] 36) = W := ⟨_, rfl⟩
  have hbW : Below w.heap.size w W := by rw [← hW]; exact (Below.refl _ _).alloc (Nat.le_refl _) _
  have S0 : ∀ w', Below W.heap.size W w' → w'.heap[w.heap.size]? = some (.cells #[.bool false, .slice none 0 0, .slice none 0 0] 36) ∧ w.heap.size < w'.heap.size := fun w' h => by
    rw [← hW] at h
    exact box3 h
  have HS0 := hide S0
  have HWE := hide hW
  have HBW := hide hbW
  have hsmD := small_dval (unhide N1) hl1
  have HSM := hide hsmD
  clear hW hbW S0 hsmD
  go_enter Tryd.func28, Tryd.ntmps28
  go_wp2_with fail
  rw [unhide HWE]
  refine (unhide HC' _).mono ?_
  rintro e w1 ⟨o, u, rfl, ho, hu, q, hw1⟩
  subst hw1
  have hb1 := below_drewN W q
  have hol : (o.size : Int) ≤ 40 := by have : o.size = D1.length := by rw [← ho]; exact (Array.length_toList (xs := o.data)).symm
                                       omega
  have hul : (u.size : Int) ≤ 40 := by have : u.size = D2.length := by rw [← hu]; exact (Array.length_toList (xs := u.data)).symm
                                       omega
  have d1 : decide ((40 : Int) < (o.size : Int)) = false := decide_eq_false (by omega)
  have d2 : decide ((40 : Int) < (u.size : Int)) = false := decide_eq_false (by omega)
  have HO := hide ho
  have HUu := hide hu
  have HOL := hide hol
  have HUL := hide hul
  clear hol hul
  clear ho hu
  go_wp2_with fail
  refine (digits_any u _ (by have := unhide HUL; omega) (by rw [unhide HUu]; exact unhide N2)).mono ?_
  rintro e w2 ⟨v2, rfl, hv2, hr2⟩
  rw [unhide HUu, unhide HU] at hv2
  have hb2 := below_step hb1 hr2
  have hV2 := hide hv2
  obtain ⟨a2, n2, c2, rfl, hl2', _⟩ := hv2
  have hn2 : n2 ≠ 0 := by intro h; subst h; have := hl2'.zero; omega
  have z2 : ((n2 : Int) == 0) = false := by rw [beq_eq_false_iff_ne]; omega
  clear hl2' hn2 hb1 hr2
  go_wp2_with fail
  go_region_held3 (fun _ => True) (trivial)
    (first | (go_at_call 57; refine (digits_any o _ (by have := unhide HOL; omega) (by rw [unhide HO]; exact unhide N1)).mono ?_; rintro e w3 ⟨v3, rfl, hv3, hr3⟩; rw [unhide HO] at hv3; have hb3 := below_step (hb2.trans (below_drew_ge _ _)) hr3; have hV23 := hide (((unhide hV2).below (below_drew_ge _ _)).below hr3)) | (go_at_call 58; refine (lowered_small neg _ _ _ _ _ hv3 (unhide hV23) (sm_of (unhide HSM) (by decide)) hU0 hUw).mono ?_; rintro e w4 ⟨v4, rfl, hv4, hr4⟩; have hb4 := below_step hb3 hr4; have HV4 := hide hv4; obtain ⟨ov8, un8, rfl, hov8, hun8⟩ := hv4; obtain ⟨a18, n18, c18, rfl, _, _⟩ := hov8; obtain ⟨a19, n19, c19, rfl, _, _⟩ := hun8; have ⟨hbx, hsz⟩ := unhide HS0 _ hb4; have ⟨g0, g1, g2, f0, f1, f2⟩ := box_cell hbx; have HBX := hide hbx; clear hbx))
  all_goals
    go_wp2
    have ⟨r1, r2⟩ := rat_boxed (w0 := w) (unhide HV4) (unhide HBX) (below_step (unhide HBW) hb4) (Nat.le_refl _) (Value.bool (decide ((mkRat (sn neg (dval 0 D1)) U).num < 0))) (Value.slice a18 n18 c18) (Value.slice a19 n19 c19)
    exact bodyPost_ret (v := .tuple #[.agg #[.bool (decide ((mkRat (sn neg (dval 0 D1)) U).num < 0)), .slice a18 n18 c18, .slice a19 n19 c19], .nilIface]) (by simp [results, Tryd.results28, go_sem, g0, g1, g2]) rfl ⟨_, rfl, r1, r2⟩
end Go.Proofs.YtdicbnchkfclaaaDoor
/- A number's text. -/
namespace Go.Proofs.YtdicbnchkfclaaaDoor
open Go.RowKit Go.Sort Go.Shelf Go.Dd

theorem append_nothing (w : World) (ty : TypeId) (p : Addr) (c : Nat) (g : Nat) :
    (Builtin.append_ #[34, 34] ty #[.slice (some ⟨g, 0, none⟩) 0 0, .slice (some p) 0 c]).run Tryd.prog (w.alloc (.cells #[] 79)) = .ok (.slice (some ⟨g, 0, none⟩) 0 0) (w.alloc (.cells #[] 79)) := by
  obtain ⟨i, hi, hz0, hz1, hz2⟩ := info_parts Tryd.info54
  simp [Builtin.append_, run_underlying Tryd.underlying34, sizeOf, typeInfo, hi, Builtin.lenOf, Builtin.firstCells, loadCells, loadCellsFrom, storeCells]

set_option maxRecDepth 100000 in
theorem clone_zero (a : Option Addr) (c : Nat) (w : World) :
    Calls Tryd.prog 69 #[.slice a 0 c] w fun e w' => ∃ a' c', e = .returned (.slice a' 0 c') ∧ Below w.heap.size w w' := by
  have q1 := fun (W : World) (a : Option Addr) (n c : Nat) => Lib.run_eql_slice_nil (P := Tryd.prog) W 34 79 a n c 0 0 Tryd.underlying34
  cases a with
  | none =>
    go_enter Tryd.func69, Tryd.ntmps69
    go_wp2
    go_ret
    exact ⟨_, _, rfl, Below.refl _ _⟩
  | some p =>
    have q2 := fun ty => append_nothing w ty p c w.heap.size
    go_enter Tryd.func69, Tryd.ntmps69
    go_wp2
    go_ret
    exact ⟨_, _, rfl, alloc_below _ _⟩

theorem head_holds {w : World} {g : Nat} {x : Int} (h : Head w g 1 (fun _ => x)) : Holds enc w g 0 #[x] := fun j hj => by
  obtain ⟨cur, hh, hc⟩ := h
  have hj0 : j = 0 := by simpa using hj
  subst hj0
  refine ⟨?_, ?_⟩
  · simp only [World.cell?, hh]
    simpa [enc] using hc 0 (by decide)
  · simp [World.frozen?, hh]

theorem dig_one {N : Int} (h0 : 0 ≤ N) (h1 : N < 18446744073709551616) : Wd.dig N 0 = N := by
  simp [Wd.dig, Wd.pw]
  omega

theorem row_of_head {w : World} {g n c : Nat} {f : Nat → Int} (h : Head w g n f) (hc : n ≤ c) (hm : c ≤ 9223372036854775807) : RowIs w (some ⟨g, 0, none⟩) n c f := by
  obtain ⟨cur, hh, hv⟩ := h
  refine ⟨hc, hm, fun _ => ⟨g, 0, rfl, (Array.getElem?_eq_some_iff.1 hh).1, fun j hj => ?_⟩⟩
  simp only [World.cell?, hh, Nat.zero_add]
  exact hv j hj

/-- One round of the parts. -/
structure PartAt (w : World) (wr : World) (N : Int) (vp : Value) : Prop where
  ex : ∃ g2 c2, vp = .slice (some ⟨g2, 0, none⟩) 1 c2 ∧ wr.cell? ⟨g2, 0, none⟩ = some (.int .u64 N)
  below : Below w.heap.size w wr

theorem owns_nil (w : World) (B : Nat) : w.ownsRow B 79 1 (.slice none 0 0) 0 [] := ⟨rfl, Or.inl ⟨rfl, rfl⟩⟩

theorem news_one {w : World} (x : Int) : ∀ j u, ([Value.int .u64 x] : List Value)[j]? = some u → (w.alloc (.cells #[.int .u64 x] 79)).cell? ((⟨w.heap.size, 0, none⟩ : Addr).add j) = some u := fun j u hu => by
  cases j with
  | zero =>
    simp at hu
    subst hu
    rw [addr_add, World.cell?_alloc_new]
    simp
  | succ j => simp at hu
end Go.Proofs.YtdicbnchkfclaaaDoor
