/- A text of a fraction is cut, and read. -/
import Derived.Test.YtjeddhknmoldcaaDoorW17
namespace Go.Proofs.YtjeddhknmoldcaaDoor
open Go.RowKit Go.Sort Go.Shelf Go.Dd

theorem extract_list (s : ByteArray) (a b : Nat) : (s.extract a b).data.toList = (s.data.toList.drop a).take (b - a) := by
  rw [ByteArray.data_extract, Array.toList_extract, List.extract_eq_take_drop]
theorem extract_drop (s : ByteArray) (a : Nat) : (s.extract a s.size).data.toList = s.data.toList.drop a := by
  rw [extract_list, List.take_of_length_le (by rw [List.length_drop, Array.length_toList]; exact Nat.le_refl _)]

set_option maxHeartbeats 2000000 in
set_option maxRecDepth 100000 in
theorem cut_whole (s : ByteArray) (f : Nat) (w : World) (hf : f = 0 ∨ f = 1) (hp : Lib.hasPrefix s.data.toList [45] = decide (f = 1)) (hfk : f < s.size) (hd1 : ∀ j (h : j < s.size), f ≤ j → IsDig s[j]) (hsz : s.size ≤ 1000) :
    Calls Tryd.prog 14 #[.string s] w fun e w' => ∃ o : ByteArray, e = .returned (.tuple #[.string o, .string ⟨#[49]⟩, .nilIface]) ∧ o.data.toList = s.data.toList.drop f ∧ w' = w := by
  have HD := hide hd1
  have HP := hide (Tryd.strings_HasPrefix s ⟨#[45]⟩ w)
  have e45 : (⟨#[45]⟩ : ByteArray).data.toList = [45] := rfl
  rw [e45, hp] at HP
  have HE := hide (digitsEnd_any s f w (by omega) (by omega))
  clear hd1 hp e45
  have z1 : ((s.size : Int) == (f : Int)) = false := by rw [beq_eq_false_iff_ne]; omega
  rcases hf with rfl | rfl
  · go_enter Tryd.func14, Tryd.ntmps14
    go_wp2_with fail
    refine (unhide HP).mono ?_
    rintro e w' ⟨rfl, hw'⟩
    obtain rfl := hw'.symm
    go_wp2_with fail
    refine (unhide HE).mono ?_
    rintro e w' ⟨k, rfl, hk1, hk2, _, hk4, hw'⟩
    obtain rfl := hw'.symm
    have hk : k = s.size := by
      rcases Nat.lt_or_ge k s.size with h | h
      · exact absurd (unhide HD k h hk1) (hk4 h)
      · omega
    subst hk
    clear hk4 HE HP
    go_wp2
    go_ret3
    exact ⟨s, rfl, rfl, rfl⟩
  · go_enter Tryd.func14, Tryd.ntmps14
    go_wp2_with fail
    refine (unhide HP).mono ?_
    rintro e w' ⟨rfl, hw'⟩
    obtain rfl := hw'.symm
    go_wp2_with fail
    refine (unhide HE).mono ?_
    rintro e w' ⟨k, rfl, hk1, hk2, _, hk4, hw'⟩
    obtain rfl := hw'.symm
    have hk : k = s.size := by
      rcases Nat.lt_or_ge k s.size with h | h
      · exact absurd (unhide HD k h hk1) (hk4 h)
      · omega
    subst hk
    clear hk4 HE HP
    go_wp2
    go_ret3
    exact ⟨s.extract 1 s.size, rfl, extract_drop s 1, rfl⟩

set_option maxHeartbeats 2000000 in
set_option maxRecDepth 100000 in
theorem cut_frac (s : ByteArray) (f k : Nat) (w : World) (hf : f = 0 ∨ f = 1) (hp : Lib.hasPrefix s.data.toList [45] = decide (f = 1)) (hfk : f < k) (hk : k + 1 < s.size) (hks : k < s.size) (h47 : s[k] = 47)
    (hd1 : ∀ j (h : j < s.size), f ≤ j → j < k → IsDig s[j]) (hd2 : ∀ j (h : j < s.size), k < j → IsDig s[j]) (hsz : s.size ≤ 1000) :
    Calls Tryd.prog 14 #[.string s] w fun e w' => ∃ o : ByteArray, e = .returned (.tuple #[.string o, .string (s.extract (k + 1) s.size), .nilIface]) ∧ o.data.toList = (s.data.toList.drop f).take (k - f) ∧ ∃ q, w' = w.drewN q := by
  have HD1 := hide hd1
  have HD2 := hide hd2
  have HP := hide (Tryd.strings_HasPrefix s ⟨#[45]⟩ w)
  have e45 : (⟨#[45]⟩ : ByteArray).data.toList = [45] := rfl
  rw [e45, hp] at HP
  have HE := hide (digitsEnd_any s f w (by omega) (by omega))
  have HE2 := hide (digitsEnd_any s (k + 1) w (by omega) (by omega))
  have h47' : (s[k].toNat : Int) = 47 := by rw [h47]; rfl
  have hnd : ¬ IsDig s[k] := by rw [h47]; unfold IsDig; decide
  have HND := hide hnd
  have H47 := hide h47'
  clear hd1 hd2 hp e45 h47 h47' hnd
  have z1 : ((k : Int) == (f : Int)) = false := by rw [beq_eq_false_iff_ne]; omega
  have z2 : ((k : Int) == (s.size : Int)) = false := by rw [beq_eq_false_iff_ne]; omega
  have z3 : ((s.size : Int) == (k : Int) + 1) = false := by rw [beq_eq_false_iff_ne]; omega
  obtain ⟨x, hx⟩ : ∃ x, (s[k].toNat : Int) = x := ⟨_, rfl⟩
  have hx47 : x = 47 := by rw [← hx]; exact unhide H47
  have z4 : ((s[k].toNat : Int) != 47) = false := by rw [hx, hx47]; rfl
  clear hx hx47 H47
  rcases hf with rfl | rfl
  · go_enter Tryd.func14, Tryd.ntmps14
    go_wp2_with fail
    refine (unhide HP).mono ?_
    rintro e w' ⟨rfl, hw'⟩
    obtain rfl := hw'.symm
    go_wp2_with fail
    refine (unhide HE).mono ?_
    rintro e w' ⟨k', rfl, hk1, hk2, hk3, hk4, hw'⟩
    obtain rfl := hw'.symm
    have hkk : k' = k := by
      rcases Nat.lt_trichotomy k' k with h | h | h
      · exact absurd (unhide HD1 k' (by omega) hk1 h) (hk4 (by omega))
      · exact h
      · exact absurd (hk3 k hks (by omega) h) (unhide HND)
    subst hkk
    clear hk3 hk4 HE HP HND HD1
    go_wp2_with fail
    refine (unhide HE2).mono ?_
    rintro e w' ⟨k2, rfl, hj1, hj2, _, hj4, hw'⟩
    obtain rfl := hw'.symm
    have hkk : k2 = s.size := by
      rcases Nat.lt_or_ge k2 s.size with h | h
      · exact absurd (unhide HD2 k2 h (by omega)) (hj4 h)
      · omega
    subst hkk
    clear hj4 HE2 HD2
    go_wp2_with fail
    go_quiet (fail)
    go_wp2
    go_ret3
    exact ⟨s.extract 0 k', rfl, extract_list s 0 k', _, rfl⟩
  · go_enter Tryd.func14, Tryd.ntmps14
    go_wp2_with fail
    refine (unhide HP).mono ?_
    rintro e w' ⟨rfl, hw'⟩
    obtain rfl := hw'.symm
    go_wp2_with fail
    refine (unhide HE).mono ?_
    rintro e w' ⟨k', rfl, hk1, hk2, hk3, hk4, hw'⟩
    obtain rfl := hw'.symm
    have hkk : k' = k := by
      rcases Nat.lt_trichotomy k' k with h | h | h
      · exact absurd (unhide HD1 k' (by omega) hk1 h) (hk4 (by omega))
      · exact h
      · exact absurd (hk3 k hks (by omega) h) (unhide HND)
    subst hkk
    clear hk3 hk4 HE HP HND HD1
    go_wp2_with fail
    refine (unhide HE2).mono ?_
    rintro e w' ⟨k2, rfl, hj1, hj2, _, hj4, hw'⟩
    obtain rfl := hw'.symm
    have hkk : k2 = s.size := by
      rcases Nat.lt_or_ge k2 s.size with h | h
      · exact absurd (unhide HD2 k2 h (by omega)) (hj4 h)
      · omega
    subst hkk
    clear hj4 HE2 HD2
    go_wp2_with fail
    go_quiet (fail)
    go_wp2
    go_ret3
    exact ⟨s.extract 1 k', rfl, extract_list s 1 k', _, rfl⟩
end Go.Proofs.YtjeddhknmoldcaaDoor
