/- The library's: a builder's WriteString laid by hand; a word's decimal digits. -/
import Derived.Test.YtpopcfclpemlaaaDoorA8
import Derived.Shelf.Strings.Builder1
import Derived.Shelf.Strings.BuilderK
import Derived.Lib.ItoaMem
import Derived.Lib.AppendIntMem
import Derived.Deep.AppendLies
import Derived.Lib.ItoaNum
import Derived.Laws.OwnMore
namespace Go.Proofs.YtpopcfclpemlaaaDoor
open Go.RowKit Go.Sort Go.Shelf

def Tryd.lays166_ren : Go.Shelf.Ren := ⟨fun | 166 => 91 | 240 => 108 | 276 => 118 | n => n, fun | 0 => 0 | 3 => 3 | 4 => 4 | 9 => 9 | 20 => 20 | 37 => 120 | 70 => 119 | 72 => 122 | 75 => 33 | 80 => 78 | 164 => 147 | 5 => 5 | n => n, fun | n => n⟩
theorem Tryd.lays166 : Go.Proofs.Lays.n166 Tryd.prog Tryd.lays166_ren := {
  mixed := by kernel_rfl
  f166 := Tryd.func91.trans (congrArg some (by kernel_rfl))
  f240 := Tryd.func108.trans (congrArg some (by kernel_rfl))
  f276 := Tryd.func118.trans (congrArg some (by kernel_rfl))
  t0 := Tryd.underlying0
  a0 := Tryd.isAgg0
  z0 := Tryd.sizeOf0
  v0 := Tryd.zeroValue0
  t3 := Tryd.underlying3
  a3 := Tryd.isAgg3
  z3 := Tryd.sizeOf3
  v3 := Tryd.zeroValue3
  t4 := Tryd.underlying4
  a4 := Tryd.isAgg4
  z4 := Tryd.sizeOf4
  v4 := Tryd.zeroValue4
  t9 := Tryd.underlying9
  a9 := Tryd.isAgg9
  z9 := Tryd.sizeOf9
  v9 := Tryd.zeroValue9
  t20 := Tryd.underlying20
  a20 := Tryd.isAgg20
  z20 := Tryd.sizeOf20
  v20 := Tryd.zeroValue20
  t37 := Tryd.underlying120
  a37 := Tryd.isAgg120
  z37 := Tryd.sizeOf120
  v37 := Tryd.zeroValue120
  t70 := Tryd.underlying119
  a70 := Tryd.isAgg119
  z70 := Tryd.sizeOf119
  v70 := Tryd.zeroValue119
  t72 := Tryd.underlying122
  a72 := Tryd.isAgg122
  z72 := Tryd.sizeOf122
  v72 := Tryd.zeroValue122
  t75 := Tryd.underlying33
  a75 := Tryd.isAgg33
  z75 := Tryd.sizeOf33
  v75 := Tryd.zeroValue33
  t164 := Tryd.underlying147
  a164 := Tryd.isAgg147
  z164 := Tryd.sizeOf147
  v164 := Tryd.zeroValue147 }
theorem Tryd.Builder_Extra_166 : Builder.Extra Tryd.prog Tryd.lays166_ren := {
  sizeBuilder := by kernel_rfl
  liesBuilder := by kernel_rfl
  t5 := Tryd.underlying5
  a5 := Tryd.isAgg5
  z5 := Tryd.sizeOf5
  v5 := Tryd.zeroValue5
  infoByte := by kernel_rfl
  cellsByte := by kernel_rfl
  sizeByte := by kernel_rfl
  neB5 := by decide }

theorem writeString_any (B b : Nat) (bs : List Value) (s : ByteArray) (w : World) (h : Lib.IsBuilder 122 5 B b bs w) (hlen : bs.length + s.size ≤ 140737488355328) (hBw : B ≤ w.heap.size) :
    Calls Tryd.prog 91 #[.pointer (some ⟨b, 0, none⟩), .string s] w fun e w' => e = .returned (.tuple #[.int .i64 s.size, .nilIface]) ∧ (Lib.BuilderAt 122 5 B b (.pointer (some ⟨b, 0, none⟩)) (bs ++ Lib.strCells s) w' ∧ Below B w w') :=
  Any.Builder_WriteString Tryd.lays166 Tryd.Builder_Extra_166 B b bs s w h hlen hBw

/-- The new array's bytes from its head on are a row of noughts. -/
theorem holds_zero0 (w : World) (T : TypeId) (nd : Nat) (hs : nd ≤ 24) : Holds (fun (b : UInt8) => Value.int .u8 (b.toNat : Int)) (w.alloc (.cells Lib.zeros24 T)) w.heap.size 0 (Array.replicate nd (0 : UInt8)) := fun j hj => by
  have hj' : j < nd := by simpa using hj
  refine ⟨?_, World.frozen?_alloc_new _ _ _ _⟩
  rw [World.cell?_alloc_new, Nat.zero_add, Lib.zeros24_at _ (by omega), getElem!_pos _ j hj]
  simp

/-- The table that the numerals are counted by. -/
abbrev Tab (w : World) : Prop := Lib.TabIs Tryd.prog w "internal/strconv.uint64pow10" .u64 Lib.pow10Tab

theorem tab_below {w w' : World} (h : Tab w) (hb : Below w.heap.size w w') : Tab w' := Lib.tabBelow_of_tabIs h w' hb

theorem below_putRowB {B g o : Nat} {w : World} (d : Array UInt8) (h : B ≤ g) : Below B w (putRow (fun (b : UInt8) => Value.int .u8 (b.toNat : Int)) w g o d) := by
  refine ⟨rfl, rfl, rfl, by simp [putRow, mapBlock], fun k hk => ?_⟩
  simp only [putRow, mapBlock, Array.getElem?_modify]
  rw [if_neg (by omega)]

set_option maxHeartbeats 2000000 in
set_option maxRecDepth 100000 in
theorem fmtUint_in (u : Nat) (hu64 : u < 18446744073709551616) (w : World) (htab : Tab w) :
    Calls Tryd.prog 109 #[.int .u64 u, .int .i64 10] w fun e w' => e = .returned (.string ⟨(Lib.decDigits u).toArray⟩) ∧ Below w.heap.size w w' := by
  by_cases hs : u < 100
  · go_enter Tryd.func109, Tryd.ntmps109
    go_wp2_with (go_at_call 119; refine (Tryd.internal_strconv_small u hs _).mono ?_; rintro e w' ⟨rfl, hw'⟩; obtain rfl := hw'.symm)
    go_ret
    exact ⟨rfl, Below.refl _ _⟩
  · have hu1 : 1 ≤ u := by omega
    have hnd20 : Lib.nDigits u ≤ 20 := by have := Lib.numDigits_eq u hu1 hu64; split at this <;> omega
    have hal : Tryd.prog.arrayLen 150 = 24 := by simp [Program.arrayLen, Tryd.underlying150]
    have hsl1 : ∀ W, (Instr.sliceAt 150 (.pointer (some ⟨w.heap.size, 0, none⟩)) none (some (.int .i64 (Lib.nDigits u : Int))) none).run Tryd.prog W = .ok (.slice (some ⟨w.heap.size, 0, none⟩) (Lib.nDigits u) 24) W := fun W => by
      rw [run_sliceAt_array_h W 150 ⟨w.heap.size, 0, none⟩ (by simp [Program.arrayLen, Program.elem, Tryd.underlying150]) .i64 (Lib.nDigits u : Int) (by omega) (by rw [hal]; omega)]
      go_simp
      try omega
    have hH0 := holds_zero0 w 150 (Lib.nDigits u) (by omega)
    have hfmt := Tryd.internal_strconv_formatBase10 w.heap.size 0 24 u (Array.replicate (Lib.nDigits u) 0) (w.alloc (.cells Lib.zeros24 150)) hH0 (by rw [Array.size_replicate]; exact Lib.lt_pow_nDigits u) hu64 (by rw [Array.size_replicate]; omega)
    rw [Array.size_replicate] at hfmt
    have HH0 := hide hH0
    have HF := hide hfmt
    clear hH0 hal hfmt
    go_enter Tryd.func109, Tryd.ntmps109
    go_wp2_with (go_at_call 120; refine (Tryd.internal_strconv_numDigits u hu1 hu64 _ (tab_below htab (alloc_below _ _))).mono ?_; rintro e w' ⟨rfl, hw'⟩; subst hw')
    refine (unhide HF).mono ?_
    rintro e w' ⟨rfl, k, v', dk, rfl, hF⟩
    have hcv : (convert 120 9 (.slice (some ⟨w.heap.size, 0, none⟩) (Lib.nDigits u) 24)).run Tryd.prog ((putRow (fun (b : UInt8) => Value.int .u8 (b.toNat : Int)) (w.alloc (.cells Lib.zeros24 150)) w.heap.size 0 dk).drewN k) = .ok (.string ⟨(Lib.decDigits u).toArray⟩) ((putRow (fun (b : UInt8) => Value.int .u8 (b.toNat : Int)) (w.alloc (.cells Lib.zeros24 150)) w.heap.size 0 dk).drewN k) := by
      have h := run_convert_bytes_back (P := Tryd.prog) ((putRow (fun (b : UInt8) => Value.int .u8 (b.toNat : Int)) (w.alloc (.cells Lib.zeros24 150)) w.heap.size 0 dk).drewN k) 120 9 5 ⟨w.heap.size, 0, none⟩ 24 (Lib.decDigits u) Tryd.underlying120 Tryd.underlying5 Tryd.underlying9 (fun j hj => by
        rw [Lib.add_plain, Lib.row_is_numeral hF j hj, World.cell?_drewN]
        exact cell?_putRow (fun (b : UInt8) => Value.int .u8 (b.toNat : Int)) _ w.heap.size 0 _ dk (unhide HH0) (by rw [hF.size, Array.size_replicate]) j (by rw [hF.size]; rw [Lib.decDigits_length] at hj; exact hj))
      rw [Lib.decDigits_length] at h
      exact h
    clear HF hF HH0
    go_wp2
    go_ret
    exact ⟨rfl, ((alloc_below w _).trans (below_putRowB dk (Nat.le_refl _))).trans (Below.mono (below_drewN _ _) (by simp [putRow, mapBlock]))⟩

theorem fmtUint_any (u : Nat) (hu64 : u < 18446744073709551616) (w : World) (htab : Tab w) :
    Calls Tryd.prog 92 #[.int .u64 u, .int .i64 10] w fun e w' => e = .returned (.string ⟨(Lib.decDigits u).toArray⟩) ∧ Below w.heap.size w w' := by
  have HF := hide (fmtUint_in u hu64 w htab)
  clear htab
  go_enter Tryd.func92, Tryd.ntmps92
  go_wp2_with (go_at_call 109; refine (unhide HF).mono ?_; rintro e w' ⟨rfl, hb⟩)
  go_ret
  exact ⟨rfl, hb⟩
end Go.Proofs.YtpopcfclpemlaaaDoor
/- A number's copy; its text. -/
namespace Go.Proofs.YtpopcfclpemlaaaDoor
open Go.RowKit Go.Sort Go.Shelf

/-- n words at the head of block g, which is a row of the call's own with room behind them perhaps. -/
def Head (w : World) (g n : Nat) (f : Nat → Int) : Prop := ∃ cur, w.heap[g]? = some (.cells cur 81 (0, 0)) ∧ ∀ j, j < n → cur[j]? = some (.int .u64 (f j))

def newsL (f : Nat → Int) (n : Nat) : List Value := (List.range n).map (fun j => .int .u64 (f j))
theorem newsL_length (f : Nat → Int) (n : Nat) : (newsL f n).length = n := by simp [newsL]
theorem newsL_get (f : Nat → Int) (n j : Nat) (v : Value) (h : (newsL f n)[j]? = some v) : j < n ∧ v = .int .u64 (f j) := by
  have hj : j < n := by
    have := (List.getElem?_eq_some_iff.1 h).1
    simpa [newsL] using this
  refine ⟨hj, ?_⟩
  simp [newsL, hj] at h
  exact h.symm

theorem head_of_owns {w : World} {base g n cap : Nat} {f : Nat → Int} (h : w.ownsRow base 81 1 (.slice (some ⟨g, 0, none⟩) n cap) n (newsL f n)) : Head w g n f ∧ base ≤ g ∧ n ≤ cap ∧ cap ≤ 9223372036854775807 := by
  obtain ⟨h1, h2⟩ := h
  rcases h2 with ⟨h2, _⟩ | ⟨g', cap', cur, hv, hb, hh, hn, hm, hs, ht⟩
  · cases h2
  · injection hv with e1 e2 e3
    injection e1 with e1
    injection e1 with e1
    subst e1; subst e3
    refine ⟨⟨cur, hh, fun j hj => ?_⟩, hb, hn, hm⟩
    have : (cur.toList.take (n * 1))[j]? = (newsL f n)[j]? := by rw [ht]
    rw [List.getElem?_take_of_lt (by omega)] at this
    simp [newsL, hj] at this
    simpa using this

theorem addr_add (b o j : Nat) : (⟨b, o, none⟩ : Addr).add j = ⟨b, o + j, none⟩ := by
  by_cases h : j = 0
  · subst h; simp [Addr.add]
  · simp [Addr.add, h]

set_option maxHeartbeats 1000000 in
set_option maxRecDepth 100000 in
theorem clone_pos (b o n c : Nat) (w : World) (f : Nat → Int) (hp : 0 < n) (hn : n ≤ 1099511627776) (hc : ∀ j, j < n → w.cell? ⟨b, o + j, none⟩ = some (.int .u64 (f j))) :
    Calls Tryd.prog 77 #[.slice (some ⟨b, o, none⟩) n c] w fun e w' => ∃ g cap, e = .returned (.slice (some ⟨g, 0, none⟩) n cap) ∧ Head w' g n f ∧ w.heap.size ≤ g ∧ n ≤ cap ∧ cap ≤ 9223372036854775807 ∧ Below w.heap.size w w' := by
  have q1 := fun (W : World) (a : Option Addr) (n c : Nat) => Lib.run_eql_slice_nil (P := Tryd.prog) W 29 81 a n c 0 0 Tryd.underlying29
  obtain ⟨i, hi, hz0, hz1, hz2⟩ := info_parts Tryd.info54
  have hblt : b < w.heap.size := World.block_lt_of_cell? _ ⟨b, o + 0, none⟩ (hc 0 hp)
  have hown : (w.alloc (.cells #[] 81)).ownsRow w.heap.size 81 1 (.slice (some ⟨w.heap.size, 0, none⟩) 0 0) 0 [] :=
    ⟨rfl, Or.inr ⟨w.heap.size, 0, #[], rfl, Nat.le_refl _, by show (w.heap.push _)[w.heap.size]? = _; simp, Nat.le_refl _, by decide, rfl, rfl⟩⟩
  have hnews : ∀ j u, (newsL f n)[j]? = some u → (w.alloc (.cells #[] 81)).cell? ((⟨b, o, none⟩ : Addr).add j) = some u := fun j u hu => by
    obtain ⟨hj, rfl⟩ := newsL_get _ _ _ _ hu
    rw [addr_add, (alloc_below w _).cell (p := ⟨b, o + j, none⟩) hblt]
    exact hc j hj
  have h1 : ∀ u ∈ newsL f n, u.oneCell' = true := fun u hu => by
    obtain ⟨j, hj⟩ := List.getElem?_of_mem hu
    obtain ⟨_, rfl⟩ := newsL_get _ _ _ _ hj
    rfl
  have HO := hide hown
  have HN := hide hnews
  have H1 := hide h1
  have H0 := hide hz0
  have HI := hide hi
  clear hc hown hnews h1 hz0 hi
  go_enter Tryd.func77, Tryd.ntmps77
  go_wp2_with (at_builtin; refine wpList_append_lies _ rfl _ _ _ rfl w.heap.size 81 i (.int .u64 0) 1 8 Tryd.underlying29 (unhide HI) (unhide H0) hz1 hz2 rfl (by omega) _ 0 [] rfl (unhide HO) ⟨b, o, none⟩ n c (newsL f n) rfl (by rw [newsL_length]; omega) (unhide HN) (unhide H1) hp (by unfold maxLen; omega) (by omega) (by simp) (w.heap.size + 1) (by simp) ?_; intro g cap w1 hown1 hgrow hat hlt)
  go_ret
  rw [Nat.zero_add, List.nil_append] at hown1
  have ⟨hh, hg, hnc, hcm⟩ := head_of_owns hown1
  refine ⟨g, cap, by rw [← Nat.zero_add n]; rfl, hh, hg, hnc, hcm, (alloc_below w _).trans (Below.grown (Below.refl _ _) hgrow (by simp) ?_)⟩
  intro k hk
  have : w.heap.size = k := Option.some.inj hk
  omega
end Go.Proofs.YtpopcfclpemlaaaDoor
/- Decimal digits: plain mathematics. -/
namespace Go.Dd
/-- The number of decimal digits. -/
def dval (acc : Int) : List UInt8 → Int
  | [] => acc
  | b :: r => dval (10 * acc + ((b.toNat : Int) - 48)) r
def IsDig (b : UInt8) : Prop := 48 ≤ b.toNat ∧ b.toNat ≤ 57
theorem dval_append (acc : Int) (l r : List UInt8) : dval acc (l ++ r) = dval (dval acc l) r := by
  induction l generalizing acc with
  | nil => rfl
  | cons b l ih => simp only [List.cons_append, dval]; exact ih _
theorem toNat_dig (k : Nat) (h : k < 10) : (UInt8.ofNat (48 + k)).toNat = 48 + k := by
  simp; omega
theorem dval_dec (u : Nat) : dval 0 (Lib.decDigits u) = u := by
  induction u using Nat.strongRecOn with
  | _ u ih =>
    unfold Lib.decDigits
    split
    · rename_i h
      simp only [dval, toNat_dig u h]; omega
    · rename_i h
      rw [dval_append, ih (u / 10) (by omega)]
      simp only [dval, toNat_dig (u % 10) (by omega)]; omega
theorem dec_digs (u : Nat) : ∀ b, b ∈ Lib.decDigits u → IsDig b := by
  induction u using Nat.strongRecOn with
  | _ u ih =>
    unfold Lib.decDigits
    split
    · rename_i h
      intro b hb
      simp only [List.mem_singleton] at hb
      subst hb
      unfold IsDig; rw [toNat_dig u h]; omega
    · rename_i h
      intro b hb
      rcases List.mem_append.1 hb with hb | hb
      · exact ih (u / 10) (by omega) b hb
      · simp only [List.mem_singleton] at hb
        subst hb
        unfold IsDig; rw [toNat_dig (u % 10) (by omega)]; omega
theorem dec_ne (u : Nat) : Lib.decDigits u ≠ [] := by
  unfold Lib.decDigits; split <;> simp
theorem dval_nn (acc : Int) (l : List UInt8) (h : ∀ b, b ∈ l → IsDig b) (h0 : 0 ≤ acc) : 0 ≤ dval acc l := by
  induction l generalizing acc with
  | nil => exact h0
  | cons b l ih =>
    have := h b (by simp)
    unfold IsDig at this
    exact ih _ (fun c hc => h c (by simp [hc])) (by omega)
theorem dval_lt (acc : Int) (l : List UInt8) (k : Nat) (h : ∀ b, b ∈ l → IsDig b) (h0 : acc < 10 ^ k) : dval acc l < 10 ^ (k + l.length) := by
  induction l generalizing acc k with
  | nil => exact h0
  | cons b l ih =>
    have := h b (by simp)
    unfold IsDig at this
    have := ih (10 * acc + ((b.toNat : Int) - 48)) (k + 1) (fun c hc => h c (by simp [hc])) (by rw [Int.pow_succ]; omega)
    rw [show k + (b :: l).length = k + 1 + l.length by simp; omega]
    exact this
end Go.Dd
/- A text's digits: where they end, and the number that they are. -/
namespace Go.Proofs.YtpopcfclpemlaaaDoor
open Go.RowKit Go.Sort Go.Shelf Go.Dd

theorem pow10_mono {m n : Nat} (h : m ≤ n) : (10 : Int) ^ m ≤ 10 ^ n := by
  obtain ⟨k, rfl⟩ := Nat.exists_eq_add_of_le h
  rw [Int.pow_add]
  have h1 : (0 : Int) < 10 ^ m := Int.pow_pos (by decide)
  have h2 : (0 : Int) < 10 ^ k := Int.pow_pos (by decide)
  have h3 : (1 : Int) ≤ 10 ^ k := by omega
  have h4 := Int.mul_le_mul_of_nonneg_left h3 (Int.le_of_lt h1)
  omega
theorem small_dval {l : List UInt8} (h : ∀ b, b ∈ l → IsDig b) (hl : l.length ≤ 40) : dval 0 l < Wd.pw 3 := by
  have h1 := dval_lt 0 l 0 h (by decide)
  have h2 := pow10_mono (m := 0 + l.length) (n := 40) (by omega)
  have h3 : (10 : Int) ^ 40 < Wd.pw 3 := by decide
  omega

theorem take_snocB (s : ByteArray) (k : Nat) (h : k < s.size) : s.data.toList.take (k + 1) = s.data.toList.take k ++ [s[k]] := by
  rw [List.take_succ_eq_append_getElem (by simpa using h)]; rfl

end Go.Proofs.YtpopcfclpemlaaaDoor
/- A text of a fraction is cut, and read. -/
namespace Go.Proofs.YtpopcfclpemlaaaDoor
open Go.RowKit Go.Sort Go.Shelf Go.Dd

theorem extract_list (s : ByteArray) (a b : Nat) : (s.extract a b).data.toList = (s.data.toList.drop a).take (b - a) := by
  rw [ByteArray.data_extract, Array.toList_extract, List.extract_eq_take_drop]
theorem extract_drop (s : ByteArray) (a : Nat) : (s.extract a s.size).data.toList = s.data.toList.drop a := by
  rw [extract_list, List.take_of_length_le (by rw [List.length_drop, Array.length_toList]; exact Nat.le_refl _)]

end Go.Proofs.YtpopcfclpemlaaaDoor
/- A text of a fraction is read. -/
namespace Go.Proofs.YtpopcfclpemlaaaDoor
open Go.RowKit Go.Sort Go.Shelf Go.Dd

end Go.Proofs.YtpopcfclpemlaaaDoor
/- A number's text. -/
namespace Go.Proofs.YtpopcfclpemlaaaDoor
open Go.RowKit Go.Sort Go.Shelf Go.Dd

theorem append_nothing (w : World) (ty : TypeId) (p : Addr) (c : Nat) (g : Nat) :
    (Builtin.append_ #[29, 29] ty #[.slice (some ⟨g, 0, none⟩) 0 0, .slice (some p) 0 c]).run Tryd.prog (w.alloc (.cells #[] 81)) = .ok (.slice (some ⟨g, 0, none⟩) 0 0) (w.alloc (.cells #[] 81)) := by
  obtain ⟨i, hi, hz0, hz1, hz2⟩ := info_parts Tryd.info54
  simp [Builtin.append_, run_underlying Tryd.underlying29, sizeOf, typeInfo, hi, Builtin.lenOf, Builtin.firstCells, loadCells, loadCellsFrom, storeCells]

set_option maxRecDepth 100000 in
theorem clone_zero (a : Option Addr) (c : Nat) (w : World) :
    Calls Tryd.prog 77 #[.slice a 0 c] w fun e w' => ∃ a' c', e = .returned (.slice a' 0 c') ∧ Below w.heap.size w w' := by
  have q1 := fun (W : World) (a : Option Addr) (n c : Nat) => Lib.run_eql_slice_nil (P := Tryd.prog) W 29 81 a n c 0 0 Tryd.underlying29
  cases a with
  | none =>
    go_enter Tryd.func77, Tryd.ntmps77
    go_wp2
    go_ret
    exact ⟨_, _, rfl, Below.refl _ _⟩
  | some p =>
    have q2 := fun ty => append_nothing w ty p c w.heap.size
    go_enter Tryd.func77, Tryd.ntmps77
    go_wp2
    go_ret
    exact ⟨_, _, rfl, alloc_below _ _⟩

theorem head_holds {w : World} {g : Nat} {x : Int} (h : Head w g 1 (fun _ => x)) : Holds enc w g 0 #[x] := fun j hj => by
  obtain ⟨cur, hh, hc⟩ := h
  have hj0 : j = 0 := by simpa using hj
  subst hj0
  refine ⟨?_, ?_⟩
  · simp only [World.cell?, hh]
    simpa [enc] using hc 0 (by decide)
  · simp [World.frozen?, hh]

theorem dig_one {N : Int} (h0 : 0 ≤ N) (h1 : N < 18446744073709551616) : Wd.dig N 0 = N := by
  simp [Wd.dig, Wd.pw]
  omega

theorem row_of_head {w : World} {g n c : Nat} {f : Nat → Int} (h : Head w g n f) (hc : n ≤ c) (hm : c ≤ 9223372036854775807) : RowIs w (some ⟨g, 0, none⟩) n c f := by
  obtain ⟨cur, hh, hv⟩ := h
  refine ⟨hc, hm, fun _ => ⟨g, 0, rfl, (Array.getElem?_eq_some_iff.1 hh).1, fun j hj => ?_⟩⟩
  simp only [World.cell?, hh, Nat.zero_add]
  exact hv j hj

/-- One round of the parts. -/
structure PartAt (w : World) (wr : World) (N : Int) (vp : Value) : Prop where
  ex : ∃ g2 c2, vp = .slice (some ⟨g2, 0, none⟩) 1 c2 ∧ wr.cell? ⟨g2, 0, none⟩ = some (.int .u64 N)
  below : Below w.heap.size w wr

theorem owns_nil (w : World) (B : Nat) : w.ownsRow B 81 1 (.slice none 0 0) 0 [] := ⟨rfl, Or.inl ⟨rfl, rfl⟩⟩

theorem news_one {w : World} (x : Int) : ∀ j u, ([Value.int .u64 x] : List Value)[j]? = some u → (w.alloc (.cells #[.int .u64 x] 81)).cell? ((⟨w.heap.size, 0, none⟩ : Addr).add j) = some u := fun j u hu => by
  cases j with
  | zero =>
    simp at hu
    subst hu
    rw [addr_add, World.cell?_alloc_new]
    simp
  | succ j => simp at hu
end Go.Proofs.YtpopcfclpemlaaaDoor
