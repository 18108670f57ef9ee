/- The library's: a builder's WriteString laid by hand; a word's decimal digits. -/
import Derived.Test.YtcelbgleajpenaaGreatDoorA8
import Derived.Shelf.Strings.Builder1
import Derived.Shelf.Strings.BuilderK
import Derived.Lib.ItoaMem
import Derived.Lib.AppendIntMem
import Derived.Deep.AppendLies
import Derived.Lib.ItoaNum
import Derived.Laws.OwnMore
import Derived.Test.YtcelbgleajpenaaGreatDoorA7
namespace Go.Proofs.YtcelbgleajpenaaGreatDoor
open Go.RowKit Go.Sort Go.Shelf

def Tryz.lays166_ren : Go.Shelf.Ren := ⟨fun | 166 => 130 | 240 => 158 | 276 => 182 | n => n, fun | 0 => 0 | 3 => 3 | 4 => 4 | 9 => 9 | 20 => 20 | 37 => 168 | 70 => 167 | 72 => 170 | 75 => 39 | 80 => 93 | 164 => 153 | 5 => 5 | n => n, fun | n => n⟩
theorem Tryz.lays166 : Go.Proofs.Lays.n166 Tryz.prog Tryz.lays166_ren := {
  mixed := by kernel_rfl
  f166 := Tryz.func130.trans (congrArg some (by kernel_rfl))
  f240 := Tryz.func158.trans (congrArg some (by kernel_rfl))
  f276 := Tryz.func182.trans (congrArg some (by kernel_rfl))
  t0 := Tryz.underlying0
  a0 := Tryz.isAgg0
  z0 := Tryz.sizeOf0
  v0 := Tryz.zeroValue0
  t3 := Tryz.underlying3
  a3 := Tryz.isAgg3
  z3 := Tryz.sizeOf3
  v3 := Tryz.zeroValue3
  t4 := Tryz.underlying4
  a4 := Tryz.isAgg4
  z4 := Tryz.sizeOf4
  v4 := Tryz.zeroValue4
  t9 := Tryz.underlying9
  a9 := Tryz.isAgg9
  z9 := Tryz.sizeOf9
  v9 := Tryz.zeroValue9
  t20 := Tryz.underlying20
  a20 := Tryz.isAgg20
  z20 := Tryz.sizeOf20
  v20 := Tryz.zeroValue20
  t37 := Tryz.underlying168
  a37 := Tryz.isAgg168
  z37 := Tryz.sizeOf168
  v37 := Tryz.zeroValue168
  t70 := Tryz.underlying167
  a70 := Tryz.isAgg167
  z70 := Tryz.sizeOf167
  v70 := Tryz.zeroValue167
  t72 := Tryz.underlying170
  a72 := Tryz.isAgg170
  z72 := Tryz.sizeOf170
  v72 := Tryz.zeroValue170
  t75 := Tryz.underlying39
  a75 := Tryz.isAgg39
  z75 := Tryz.sizeOf39
  v75 := Tryz.zeroValue39
  t164 := Tryz.underlying153
  a164 := Tryz.isAgg153
  z164 := Tryz.sizeOf153
  v164 := Tryz.zeroValue153 }
theorem Tryz.Builder_Extra_166 : Builder.Extra Tryz.prog Tryz.lays166_ren := {
  sizeBuilder := by kernel_rfl
  liesBuilder := by kernel_rfl
  t5 := Tryz.underlying5
  a5 := Tryz.isAgg5
  z5 := Tryz.sizeOf5
  v5 := Tryz.zeroValue5
  infoByte := by kernel_rfl
  cellsByte := by kernel_rfl
  sizeByte := by kernel_rfl
  neB5 := by decide }

theorem writeString_any (B b : Nat) (bs : List Value) (s : ByteArray) (w : World) (h : Lib.IsBuilder 170 5 B b bs w) (hlen : bs.length + s.size ≤ 140737488355328) (hBw : B ≤ w.heap.size) :
    Calls Tryz.prog 130 #[.pointer (some ⟨b, 0, none⟩), .string s] w fun e w' => e = .returned (.tuple #[.int .i64 s.size, .nilIface]) ∧ (Lib.BuilderAt 170 5 B b (.pointer (some ⟨b, 0, none⟩)) (bs ++ Lib.strCells s) w' ∧ Below B w w') :=
  Any.Builder_WriteString Tryz.lays166 Tryz.Builder_Extra_166 B b bs s w h hlen hBw

/-- The new array's bytes from its head on are a row of noughts. -/
theorem holds_zero0 (w : World) (T : TypeId) (nd : Nat) (hs : nd ≤ 24) : Holds (fun (b : UInt8) => Value.int .u8 (b.toNat : Int)) (w.alloc (.cells Lib.zeros24 T)) w.heap.size 0 (Array.replicate nd (0 : UInt8)) := fun j hj => by
  have hj' : j < nd := by simpa using hj
  refine ⟨?_, World.frozen?_alloc_new _ _ _ _⟩
  rw [World.cell?_alloc_new, Nat.zero_add, Lib.zeros24_at _ (by omega), getElem!_pos _ j hj]
  simp

/-- The table that the numerals are counted by. -/
abbrev Tab (w : World) : Prop := Lib.TabIs Tryz.prog w "internal/strconv.uint64pow10" .u64 Lib.pow10Tab

theorem tab_below {w w' : World} (h : Tab w) (hb : Below w.heap.size w w') : Tab w' := Lib.tabBelow_of_tabIs h w' hb

theorem below_putRowB {B g o : Nat} {w : World} (d : Array UInt8) (h : B ≤ g) : Below B w (putRow (fun (b : UInt8) => Value.int .u8 (b.toNat : Int)) w g o d) := by
  refine ⟨rfl, rfl, rfl, by simp [putRow, mapBlock], fun k hk => ?_⟩
  simp only [putRow, mapBlock, Array.getElem?_modify]
  rw [if_neg (by omega)]

set_option maxHeartbeats 2000000 in
set_option maxRecDepth 100000 in
theorem fmtUint_in (u : Nat) (hu64 : u < 18446744073709551616) (w : World) (htab : Tab w) :
    Calls Tryz.prog 159 #[.int .u64 u, .int .i64 10] w fun e w' => e = .returned (.string ⟨(Lib.decDigits u).toArray⟩) ∧ Below w.heap.size w w' := by
  by_cases hs : u < 100
  · go_enter Tryz.func159, Tryz.ntmps159
    go_wp2_with (go_at_call 183; refine (Tryz.internal_strconv_small u hs _).mono ?_; rintro e w' ⟨rfl, hw'⟩; obtain rfl := hw'.symm)
    go_ret
    exact ⟨rfl, Below.refl _ _⟩
  · have hu1 : 1 ≤ u := by omega
    have hnd20 : Lib.nDigits u ≤ 20 := by have := Lib.numDigits_eq u hu1 hu64; split at this <;> omega
    have hal : Tryz.prog.arrayLen 229 = 24 := by simp [Program.arrayLen, Tryz.underlying229]
    have hsl1 : ∀ W, (Instr.sliceAt 229 (.pointer (some ⟨w.heap.size, 0, none⟩)) none (some (.int .i64 (Lib.nDigits u : Int))) none).run Tryz.prog W = .ok (.slice (some ⟨w.heap.size, 0, none⟩) (Lib.nDigits u) 24) W := fun W => by
      rw [run_sliceAt_array_h W 229 ⟨w.heap.size, 0, none⟩ (by simp [Program.arrayLen, Program.elem, Tryz.underlying229]) .i64 (Lib.nDigits u : Int) (by omega) (by rw [hal]; omega)]
      go_simp
      try omega
    have hH0 := holds_zero0 w 229 (Lib.nDigits u) (by omega)
    have hfmt := Tryz.internal_strconv_formatBase10 w.heap.size 0 24 u (Array.replicate (Lib.nDigits u) 0) (w.alloc (.cells Lib.zeros24 229)) hH0 (by rw [Array.size_replicate]; exact Lib.lt_pow_nDigits u) hu64 (by rw [Array.size_replicate]; omega)
    rw [Array.size_replicate] at hfmt
    have HH0 := hide hH0
    have HF := hide hfmt
    clear hH0 hal hfmt
    go_enter Tryz.func159, Tryz.ntmps159
    go_wp2_with (go_at_call 184; refine (Tryz.internal_strconv_numDigits u hu1 hu64 _ (tab_below htab (alloc_below _ _))).mono ?_; rintro e w' ⟨rfl, hw'⟩; subst hw')
    refine (unhide HF).mono ?_
    rintro e w' ⟨rfl, k, v', dk, rfl, hF⟩
    have hcv : (convert 168 9 (.slice (some ⟨w.heap.size, 0, none⟩) (Lib.nDigits u) 24)).run Tryz.prog ((putRow (fun (b : UInt8) => Value.int .u8 (b.toNat : Int)) (w.alloc (.cells Lib.zeros24 229)) w.heap.size 0 dk).drewN k) = .ok (.string ⟨(Lib.decDigits u).toArray⟩) ((putRow (fun (b : UInt8) => Value.int .u8 (b.toNat : Int)) (w.alloc (.cells Lib.zeros24 229)) w.heap.size 0 dk).drewN k) := by
      have h := run_convert_bytes_back (P := Tryz.prog) ((putRow (fun (b : UInt8) => Value.int .u8 (b.toNat : Int)) (w.alloc (.cells Lib.zeros24 229)) w.heap.size 0 dk).drewN k) 168 9 5 ⟨w.heap.size, 0, none⟩ 24 (Lib.decDigits u) Tryz.underlying168 Tryz.underlying5 Tryz.underlying9 (fun j hj => by
        rw [Lib.add_plain, Lib.row_is_numeral hF j hj, World.cell?_drewN]
        exact cell?_putRow (fun (b : UInt8) => Value.int .u8 (b.toNat : Int)) _ w.heap.size 0 _ dk (unhide HH0) (by rw [hF.size, Array.size_replicate]) j (by rw [hF.size]; rw [Lib.decDigits_length] at hj; exact hj))
      rw [Lib.decDigits_length] at h
      exact h
    clear HF hF HH0
    go_wp2
    go_ret
    exact ⟨rfl, ((alloc_below w _).trans (below_putRowB dk (Nat.le_refl _))).trans (Below.mono (below_drewN _ _) (by simp [putRow, mapBlock]))⟩

theorem fmtUint_any (u : Nat) (hu64 : u < 18446744073709551616) (w : World) (htab : Tab w) :
    Calls Tryz.prog 131 #[.int .u64 u, .int .i64 10] w fun e w' => e = .returned (.string ⟨(Lib.decDigits u).toArray⟩) ∧ Below w.heap.size w w' := by
  have HF := hide (fmtUint_in u hu64 w htab)
  clear htab
  go_enter Tryz.func131, Tryz.ntmps131
  go_wp2_with (go_at_call 159; refine (unhide HF).mono ?_; rintro e w' ⟨rfl, hb⟩)
  go_ret
  exact ⟨rfl, hb⟩
end Go.Proofs.YtcelbgleajpenaaGreatDoor
/- A number's copy; its text. -/
namespace Go.Proofs.YtcelbgleajpenaaGreatDoor
open Go.RowKit Go.Sort Go.Shelf

/-- n words at the head of block g, which is a row of the call's own with room behind them perhaps. -/
def Head (w : World) (g n : Nat) (f : Nat → Int) : Prop := ∃ cur, w.heap[g]? = some (.cells cur 134 (0, 0)) ∧ ∀ j, j < n → cur[j]? = some (.int .u64 (f j))

def newsL (f : Nat → Int) (n : Nat) : List Value := (List.range n).map (fun j => .int .u64 (f j))
theorem newsL_length (f : Nat → Int) (n : Nat) : (newsL f n).length = n := by simp [newsL]
theorem newsL_get (f : Nat → Int) (n j : Nat) (v : Value) (h : (newsL f n)[j]? = some v) : j < n ∧ v = .int .u64 (f j) := by
  have hj : j < n := by
    have := (List.getElem?_eq_some_iff.1 h).1
    simpa [newsL] using this
  refine ⟨hj, ?_⟩
  simp [newsL, hj] at h
  exact h.symm

theorem head_of_owns {w : World} {base g n cap : Nat} {f : Nat → Int} (h : w.ownsRow base 134 1 (.slice (some ⟨g, 0, none⟩) n cap) n (newsL f n)) : Head w g n f ∧ base ≤ g ∧ n ≤ cap ∧ cap ≤ 9223372036854775807 := by
  obtain ⟨h1, h2⟩ := h
  rcases h2 with ⟨h2, _⟩ | ⟨g', cap', cur, hv, hb, hh, hn, hm, hs, ht⟩
  · cases h2
  · injection hv with e1 e2 e3
    injection e1 with e1
    injection e1 with e1
    subst e1; subst e3
    refine ⟨⟨cur, hh, fun j hj => ?_⟩, hb, hn, hm⟩
    have : (cur.toList.take (n * 1))[j]? = (newsL f n)[j]? := by rw [ht]
    rw [List.getElem?_take_of_lt (by omega)] at this
    simp [newsL, hj] at this
    simpa using this

theorem addr_add (b o j : Nat) : (⟨b, o, none⟩ : Addr).add j = ⟨b, o + j, none⟩ := by
  by_cases h : j = 0
  · subst h; simp [Addr.add]
  · simp [Addr.add, h]

set_option maxHeartbeats 1000000 in
set_option maxRecDepth 100000 in
theorem clone_pos (b o n c : Nat) (w : World) (f : Nat → Int) (hp : 0 < n) (hn : n ≤ 1099511627776) (hc : ∀ j, j < n → w.cell? ⟨b, o + j, none⟩ = some (.int .u64 (f j))) :
    Calls Tryz.prog 127 #[.slice (some ⟨b, o, none⟩) n c] w fun e w' => ∃ g cap, e = .returned (.slice (some ⟨g, 0, none⟩) n cap) ∧ Head w' g n f ∧ w.heap.size ≤ g ∧ n ≤ cap ∧ cap ≤ 9223372036854775807 ∧ Below w.heap.size w w' := by
  have q1 := fun (W : World) (a : Option Addr) (n c : Nat) => Lib.run_eql_slice_nil (P := Tryz.prog) W 35 134 a n c 0 0 Tryz.underlying35
  obtain ⟨i, hi, hz0, hz1, hz2⟩ := info_parts Tryz.info54
  have hblt : b < w.heap.size := World.block_lt_of_cell? _ ⟨b, o + 0, none⟩ (hc 0 hp)
  have hown : (w.alloc (.cells #[] 134)).ownsRow w.heap.size 134 1 (.slice (some ⟨w.heap.size, 0, none⟩) 0 0) 0 [] :=
    ⟨rfl, Or.inr ⟨w.heap.size, 0, #[], rfl, Nat.le_refl _, by show (w.heap.push _)[w.heap.size]? = _; simp, Nat.le_refl _, by decide, rfl, rfl⟩⟩
  have hnews : ∀ j u, (newsL f n)[j]? = some u → (w.alloc (.cells #[] 134)).cell? ((⟨b, o, none⟩ : Addr).add j) = some u := fun j u hu => by
    obtain ⟨hj, rfl⟩ := newsL_get _ _ _ _ hu
    rw [addr_add, (alloc_below w _).cell (p := ⟨b, o + j, none⟩) hblt]
    exact hc j hj
  have h1 : ∀ u ∈ newsL f n, u.oneCell' = true := fun u hu => by
    obtain ⟨j, hj⟩ := List.getElem?_of_mem hu
    obtain ⟨_, rfl⟩ := newsL_get _ _ _ _ hj
    rfl
  have HO := hide hown
  have HN := hide hnews
  have H1 := hide h1
  have H0 := hide hz0
  have HI := hide hi
  clear hc hown hnews h1 hz0 hi
  go_enter Tryz.func127, Tryz.ntmps127
  go_wp2_with (at_builtin; refine wpList_append_lies _ rfl _ _ _ rfl w.heap.size 134 i (.int .u64 0) 1 8 Tryz.underlying35 (unhide HI) (unhide H0) hz1 hz2 rfl (by omega) _ 0 [] rfl (unhide HO) ⟨b, o, none⟩ n c (newsL f n) rfl (by rw [newsL_length]; omega) (unhide HN) (unhide H1) hp (by unfold maxLen; omega) (by omega) (by simp) (w.heap.size + 1) (by simp) ?_; intro g cap w1 hown1 hgrow hat hlt)
  go_ret
  rw [Nat.zero_add, List.nil_append] at hown1
  have ⟨hh, hg, hnc, hcm⟩ := head_of_owns hown1
  refine ⟨g, cap, by rw [← Nat.zero_add n]; rfl, hh, hg, hnc, hcm, (alloc_below w _).trans (Below.grown (Below.refl _ _) hgrow (by simp) ?_)⟩
  intro k hk
  have : w.heap.size = k := Option.some.inj hk
  omega
end Go.Proofs.YtcelbgleajpenaaGreatDoor
/- Decimal digits: plain mathematics. -/
namespace Go.Dd
theorem toNat_dig (k : Nat) (h : k < 10) : (UInt8.ofNat (48 + k)).toNat = 48 + k := by
  simp; omega
theorem dec_ne (u : Nat) : Lib.decDigits u ≠ [] := by
  unfold Lib.decDigits; split <;> simp
end Go.Dd
/- A text's digits: where they end, and the number that they are. -/
namespace Go.Proofs.YtcelbgleajpenaaGreatDoor
open Go.RowKit Go.Sort Go.Shelf Go.Dd

end Go.Proofs.YtcelbgleajpenaaGreatDoor
/- A text of a fraction is cut, and read. -/
namespace Go.Proofs.YtcelbgleajpenaaGreatDoor
open Go.RowKit Go.Sort Go.Shelf Go.Dd

end Go.Proofs.YtcelbgleajpenaaGreatDoor
/- A text of a fraction is read. -/
namespace Go.Proofs.YtcelbgleajpenaaGreatDoor
open Go.RowKit Go.Sort Go.Shelf Go.Dd

end Go.Proofs.YtcelbgleajpenaaGreatDoor
/- A number's text. -/
namespace Go.Proofs.YtcelbgleajpenaaGreatDoor
open Go.RowKit Go.Sort Go.Shelf Go.Dd

theorem append_nothing (w : World) (ty : TypeId) (p : Addr) (c : Nat) (g : Nat) :
    (Builtin.append_ #[35, 35] ty #[.slice (some ⟨g, 0, none⟩) 0 0, .slice (some p) 0 c]).run Tryz.prog (w.alloc (.cells #[] 134)) = .ok (.slice (some ⟨g, 0, none⟩) 0 0) (w.alloc (.cells #[] 134)) := by
  obtain ⟨i, hi, hz0, hz1, hz2⟩ := info_parts Tryz.info54
  simp [Builtin.append_, run_underlying Tryz.underlying35, sizeOf, typeInfo, hi, Builtin.lenOf, Builtin.firstCells, loadCells, loadCellsFrom, storeCells]

set_option maxRecDepth 100000 in
theorem clone_zero (a : Option Addr) (c : Nat) (w : World) :
    Calls Tryz.prog 127 #[.slice a 0 c] w fun e w' => ∃ a' c', e = .returned (.slice a' 0 c') ∧ Below w.heap.size w w' := by
  have q1 := fun (W : World) (a : Option Addr) (n c : Nat) => Lib.run_eql_slice_nil (P := Tryz.prog) W 35 134 a n c 0 0 Tryz.underlying35
  cases a with
  | none =>
    go_enter Tryz.func127, Tryz.ntmps127
    go_wp2
    go_ret
    exact ⟨_, _, rfl, Below.refl _ _⟩
  | some p =>
    have q2 := fun ty => append_nothing w ty p c w.heap.size
    go_enter Tryz.func127, Tryz.ntmps127
    go_wp2
    go_ret
    exact ⟨_, _, rfl, alloc_below _ _⟩

theorem head_holds {w : World} {g : Nat} {x : Int} (h : Head w g 1 (fun _ => x)) : Holds enc w g 0 #[x] := fun j hj => by
  obtain ⟨cur, hh, hc⟩ := h
  have hj0 : j = 0 := by simpa using hj
  subst hj0
  refine ⟨?_, ?_⟩
  · simp only [World.cell?, hh]
    simpa [enc] using hc 0 (by decide)
  · simp [World.frozen?, hh]

theorem dig_one {N : Int} (h0 : 0 ≤ N) (h1 : N < 18446744073709551616) : Wd.dig N 0 = N := by
  simp [Wd.dig, Wd.pw]
  omega

/-- One round of the parts. -/
structure PartAt (w : World) (wr : World) (N : Int) (vp : Value) : Prop where
  ex : ∃ g2 c2, vp = .slice (some ⟨g2, 0, none⟩) 1 c2 ∧ wr.cell? ⟨g2, 0, none⟩ = some (.int .u64 N)
  below : Below w.heap.size w wr

theorem owns_nil (w : World) (B : Nat) : w.ownsRow B 134 1 (.slice none 0 0) 0 [] := ⟨rfl, Or.inl ⟨rfl, rfl⟩⟩

theorem news_one {w : World} (x : Int) : ∀ j u, ([Value.int .u64 x] : List Value)[j]? = some u → (w.alloc (.cells #[.int .u64 x] 134)).cell? ((⟨w.heap.size, 0, none⟩ : Addr).add j) = some u := fun j u hu => by
  cases j with
  | zero =>
    simp at hu
    subst hu
    rw [addr_add, World.cell?_alloc_new]
    simp
  | succ j => simp at hu
end Go.Proofs.YtcelbgleajpenaaGreatDoor
/- The greatest common divisor of numbers of any length. -/
namespace Go.Proofs.YtcelbgleajpenaaGreatDoor
open Go.RowKit Go.Sort Go.Shelf

theorem NatIs.uniq {w : World} {v : Value} {M N : Int} (h : NatIs w v M) (k : NatIs w v N) : M = N := by
  obtain ⟨a, n, c, rfl, hl, hr⟩ := h
  obtain ⟨a', n', c', e, hl', hr'⟩ := k
  injection e with e1 e2 e3
  subst e1; subst e2
  rcases Nat.eq_zero_or_pos n with h0 | h0
  · subst h0; rw [Wd.Len.zero hl, Wd.Len.zero hl']
  · obtain ⟨b, o, e4, _, hc⟩ := hr.2.2 h0
    obtain ⟨b', o', e5, _, hc'⟩ := hr'.2.2 h0
    subst e4
    injection e5 with e5
    injection e5 with e6 e7
    subst e6; subst e7
    rw [← Wd.vl_dig_all hl.1 hl.2.1, ← Wd.vl_dig_all hl'.1 hl'.2.1]
    refine Wd.vl_congr (fun j hj => ?_)
    have e8 := (hc j hj).symm.trans (hc' j hj)
    injection e8 with e8
    injection e8

/-- The number that a value stands for, for a loop's measure. -/
theorem exists_numOf : ∃ numOf : World → Value → Nat, ∀ (w : World) (v : Value) (N : Int), NatIs w v N → numOf w v = N.toNat :=
  ⟨fun w v => (Classical.epsilon (fun N : Int => NatIs w v N)).toNat, fun w v N h => by
    have := Classical.epsilon_spec (p := fun N : Int => NatIs w v N) ⟨N, h⟩
    show (Classical.epsilon (fun N : Int => NatIs w v N)).toNat = _
    rw [NatIs.uniq this h]⟩

theorem TwoAt.natA {base : Nat} {w : World} {ga gb ma mb ca cb : Nat} {da db : Array Int} {A B : Int} (h : TwoAt base w ga gb ma mb ca cb da db A B) : RowIs w (some ⟨ga, 0, none⟩) ma ca (Wd.dig A) := by
  refine ⟨Nat.le_trans h.sa h.sca, h.ka, fun hp => ⟨ga, 0, rfl, h.oa.lt, fun j hj => ?_⟩⟩
  rw [(h.oa.holds j (by have := h.sa; omega)).1, ← h.va, Wd.dig_vl (fun j hj => h.wa j (by have := h.sa; omega)) hj]
theorem TwoAt.natB {base : Nat} {w : World} {ga gb ma mb ca cb : Nat} {da db : Array Int} {A B : Int} (h : TwoAt base w ga gb ma mb ca cb da db A B) : RowIs w (some ⟨gb, 0, none⟩) mb cb (Wd.dig B) := by
  refine ⟨Nat.le_trans h.sb h.scb, h.kb, fun hp => ⟨gb, 0, rfl, h.ob.lt, fun j hj => ?_⟩⟩
  rw [(h.ob.holds j (by have := h.sb; omega)).1, ← h.vb, Wd.dig_vl (fun j hj => h.wb j (by have := h.sb; omega)) hj]
theorem OwnTwo.nats {base : Nat} {w : World} {va vb : Value} {A B : Int} (h : OwnTwo base w va vb A B) : NatIs w va A ∧ NatIs w vb B := by
  obtain ⟨ga, gb, ma, mb, ca, cb, da, db, rfl, rfl, T⟩ := h
  exact ⟨⟨_, _, _, rfl, T.la, T.natA⟩, ⟨_, _, _, rfl, T.lb, T.natB⟩⟩
theorem TwoAt.under {base : Nat} {w w' : World} {ga gb ma mb ca cb : Nat} {da db : Array Int} {A B : Int} (h : TwoAt base w ga gb ma mb ca cb da db A B) (hb : Below w.heap.size w w') : TwoAt base w' ga gb ma mb ca cb da db A B :=
  { h with oa := h.oa.below hb h.oa.lt, ob := h.ob.below hb h.ob.lt }

/-- One division: the lesser one and what is left. -/
theorem OwnTwo.divided {base : Nat} {w w' : World} {va vb vr : Value} {A B R : Int} (h : OwnTwo base w va vb A B) (hb : Below w.heap.size w w') (hr : OwnNat w.heap.size w' vr R) : OwnTwo base w' vb vr B R := by
  obtain ⟨ga, gb, ma, mb, ca, cb, da, db, rfl, rfl, T⟩ := h
  obtain ⟨g, m, d, rfl, hg, ho, hm, hd, hw, hl, hv⟩ := hr
  have := T.ob.lt
  exact ⟨gb, g, mb, m, cb, d.size, db, d, rfl, rfl, by omega, T.bb, by have := T.bb; omega, T.ob.below hb T.ob.lt, ho.head, T.sb, hm, T.scb, Nat.le_refl _, T.kb, by omega, T.wb, hw, T.lb, hl, T.vb, hv⟩

theorem sm_le {A B : Int} (h : B ≤ A) (hA : Sm A) : Sm B := Int.lt_of_le_of_lt h hA

def slen : Value → Nat | .slice _ n _ => n | _ => 0
theorem word_of_len {B : Int} {n : Nat} (hl : Wd.Len B n) (h : n ≤ 1) : B < 18446744073709551616 := by
  have := Int.lt_of_lt_of_le hl.2.1 (Wd.pw_mono h)
  rw [Wd.pw_one] at this; exact this

set_option maxHeartbeats 4000000 in
set_option maxRecDepth 100000 in
theorem reduced_any (va vb : Value) (A B : Int) (base : Nat) (w : World) (hbase : base ≤ w.heap.size) (h : OwnTwo base w va vb A B) (hle : B ≤ A) (hA : Sm A) :
    Calls Tryz.prog 139 #[va, vb] w fun e w' => ∃ v1 v2 A' B', e = .returned (.tuple #[v1, v2]) ∧ NatIs w' v1 A' ∧ NatIs w' v2 B' ∧ B' < 18446744073709551616 ∧ Sm A' ∧ Int.gcd A' B' = Int.gcd A B ∧ Below base w w' := by
  have hva : ∃ a1 n1 c1, va = .slice a1 n1 c1 := by obtain ⟨ga, gb, ma, mb, ca, cb, da, db, rfl, rfl, T⟩ := h; exact ⟨_, _, _, rfl⟩
  have hvb : ∃ a1 n1 c1, vb = .slice a1 n1 c1 := by obtain ⟨ga, gb, ma, mb, ca, cb, da, db, rfl, rfl, T⟩ := h; exact ⟨_, _, _, rfl⟩
  obtain ⟨a1, n1, c1, rfl⟩ := hva
  obtain ⟨a2, n2, c2, rfl⟩ := hvb
  have HO := hide h
  clear h
  obtain ⟨numOf, numEq⟩ := exists_numOf
  have NUM := hide numEq
  clear numEq
  go_enter Tryz.func139, Tryz.ntmps139
  go_wp2_with fail
  go_loopw [0, 1] (fun v1 v2 wr => ∃ (A' B' : Int), OwnTwo base wr v1 v2 A' B' ∧ B' ≤ A' ∧ A' ≤ A ∧ Int.gcd A' B' = Int.gcd A B ∧ Below base w wr ∧ base ≤ wr.heap.size) (fun _ v2 wr => numOf wr v2)
  case atStart => exact ⟨A, B, unhide HO, hle, Int.le_refl _, rfl, Below.refl _ _, hbase⟩
  case round =>
    obtain ⟨A', B', O, hle', hAA, hg, hb, hbs⟩ := hrel
    have HO' := hide O
    have hN := O.nats
    obtain ⟨ga, gb, ma, mb, ca, cb, da, db, rfl, rfl, T⟩ := O
    by_cases hm : mb ≤ 1
    · have hB1 := word_of_len T.lb hm
      have dm : decide (1 < (mb : Int)) = false := decide_eq_false (by omega)
      have RES := hide (⟨hN.1, hN.2, hB1, sm_le hAA hA, hg, hb⟩ : NatIs wr _ A' ∧ NatIs wr _ B' ∧ B' < 18446744073709551616 ∧ Sm A' ∧ Int.gcd A' B' = Int.gcd A B ∧ Below base w wr)
      clear T hN HO HO' hA hg hB1
      go_wp2
      go_ret2
      have R := unhide RES
      exact ⟨_, _, A', B', rfl, R.1, R.2.1, R.2.2.1, R.2.2.2.1, R.2.2.2.2.1, R.2.2.2.2.2⟩
    · have dm : decide (1 < (mb : Int)) = true := decide_eq_true (by omega)
      have hma : mb ≤ ma := by
        rcases Nat.lt_or_ge ma mb with h | h
        · have := Wd.Len.lt T.la T.lb h; omega
        · exact h
      obtain ⟨k, rfl⟩ : ∃ k, ma = k + 2 := ⟨ma - 2, by omega⟩
      have HF := hide (foresee_any (some ⟨ga, 0, none⟩) (some ⟨gb, 0, none⟩) k mb ca cb A' B' wr T.la T.natA T.lb T.natB (by omega) hle')
      have HN := hide hN
      have HT := hide T
      have HGG := hide hg
      have HBB := hide hb
      clear T hN hg hb HO
      go_wp2_with fail
      refine (unhide HF).mono ?_
      rintro e w1 ⟨v, ok, rfl, F, hb1⟩
      obtain ⟨sw, p, q, r, s, rfl, FF⟩ := F
      have hbA := (Below.refl w1.heap.size w1).alloc (Nat.le_refl _) (.cells #[.int .u64 p, .int .u64 q, .int .u64 r, .int .u64 s, .bool sw] 214)
      obtain ⟨W1, hW1⟩ : ∃ W, w1.alloc (.cells #[.int .u64 p, .int .u64 q, .int .u64 r, .int .u64 s, .bool sw] 214) = W := ⟨_, rfl⟩
      rw [hW1] at hbA
      have hbW := below_on hb1 hbA
      have T1 := (unhide HT).under hbW
      have O1 : OwnTwo base W1 (.slice (some ⟨ga, 0, none⟩) (k + 2 : Nat) ca) (.slice (some ⟨gb, 0, none⟩) mb cb) A' B' := ⟨ga, gb, _, _, _, _, _, _, rfl, rfl, T1⟩
      have hbs1 : base ≤ W1.heap.size := Nat.le_trans hbs hbW.size
      have hbB1 : Below base w W1 := (unhide HBB).trans (hbW.mono hbs)
      have HB1 := hide hbB1
      have MS := unhide NUM _ _ _ (unhide HN).2
      have HMS := hide MS
      have hB0 : 0 ≤ B' := (unhide HT).lb.1
      cases ok with
      | true =>
        obtain ⟨hp, hq, hr, hs, f0, f1⟩ := FF rfl
        have LS : ∃ A'' B'' : Int, (sw = false → A'' = p * A' - q * B' ∧ B'' = r * B' - s * A') ∧ (sw = true → A'' = p * B' - q * A' ∧ B'' = r * A' - s * B') ∧ Wd.Less A' B' A'' B'' := by
          cases sw with
          | false => exact ⟨_, _, fun _ => ⟨rfl, rfl⟩, (fun h => by cases h), f0 rfl⟩
          | true => exact ⟨_, _, (fun h => by cases h), fun _ => ⟨rfl, rfl⟩, f1 rfl⟩
        obtain ⟨A2, B2, e0, e1, L0, L1, L2, LG⟩ := LS
        have HDN := hide (done_any sw p q r s _ _ A' B' A2 B2 base W1 hbs1 O1 hle' hp hq hr hs e0 e1 L0 L1 L2)
        unfold stV at HDN
        have HLG := hide LG
        have HW1 := hide hW1
        unfold stV
        clear FF f0 f1 hp hq hr hs e0 e1 LG T1 O1 hbA hbW hb1 MS HF HT hbB1 hW1
        go_wp2_with fail
        rw [unhide HW1]
        refine (unhide HDN).mono ?_
        rintro e w2 ⟨v1, v2, rfl, O2, hb2, hs2⟩
        have HO2 := hide O2
        have hN2 := O2.nats
        have HM2 := hide (unhide NUM _ _ _ hN2.2)
        have hv1 : ∃ a n c, v1 = .slice a n c := by obtain ⟨_, _, _, _, _, _, _, _, rfl, rfl, _⟩ := O2; exact ⟨_, _, _, rfl⟩
        have hv2 : ∃ a n c, v2 = .slice a n c := by obtain ⟨_, _, _, _, _, _, _, _, rfl, rfl, _⟩ := O2; exact ⟨_, _, _, rfl⟩
        obtain ⟨a3, n3, c3, rfl⟩ := hv1
        obtain ⟨a4, n4, c4, rfl⟩ := hv2
        have HB2 := hide ((unhide HB1).trans hb2)
        clear O2 hN2 hb2 HDN
        go_wp2_with fail
        refine ⟨⟨A2, B2, unhide HO2, by omega, by omega, by rw [unhide HLG]; exact unhide HGG, unhide HB2, hs2⟩, ?_⟩
        rw [unhide HM2, unhide HMS]
        omega
      | false =>
        obtain ⟨k', rfl⟩ : ∃ k', mb = k' + 2 := ⟨mb - 2, by omega⟩
        have HDV := hide (divide_long (some ⟨ga, 0, none⟩) (some ⟨gb, 0, none⟩) (k + 2) ca k' cb A' B' W1 T1.la T1.natA T1.lb T1.natB (sm_le hAA hA) hle')
        have hB1 : 0 < B' := Wd.Len.pos T1.lb (by omega)
        have m0 := Int.emod_nonneg A' (b := B') (by omega)
        have m1 := Int.emod_lt_of_pos A' hB1
        have HW1 := hide hW1
        have HO1 := hide O1
        have HGE := hide (gcd_emod A' B')
        unfold stV
        clear FF T1 O1 hbA hbW hb1 MS HF HT hbB1 hW1
        go_wp2_with fail
        rw [unhide HW1]
        refine (unhide HDV).mono ?_
        rintro e w2 ⟨v1, v2, rfl, hv1, O2, hb2⟩
        have HO2 := hide ((unhide HO1).divided hb2 O2)
        have HM2 := hide (unhide NUM _ _ _ O2.natIs)
        have hv1' : ∃ a n c, v1 = .slice a n c := by obtain ⟨_, _, _, rfl, _, _⟩ := hv1; exact ⟨_, _, _, rfl⟩
        have hv2 : ∃ a n c, v2 = .slice a n c := by obtain ⟨_, _, _, rfl, _⟩ := O2; exact ⟨_, _, _, rfl⟩
        obtain ⟨a3, n3, c3, rfl⟩ := hv1'
        obtain ⟨a4, n4, c4, rfl⟩ := hv2
        have HB2 := hide ((unhide HB1).trans (hb2.mono hbs1))
        have hs2 : base ≤ w2.heap.size := Nat.le_trans hbs1 hb2.size
        clear O2 hv1 hb2 HDV HO1
        go_wp2_with fail
        refine ⟨⟨B', A' % B', unhide HO2, by omega, by omega, by rw [unhide HGE]; exact unhide HGG, unhide HB2, hs2⟩, ?_⟩
        rw [unhide HM2, unhide HMS]
        omega
end Go.Proofs.YtcelbgleajpenaaGreatDoor
/- The greatest common divisor of any two numbers. -/
namespace Go.Proofs.YtcelbgleajpenaaGreatDoor
open Go.RowKit Go.Sort Go.Shelf

theorem head_dgs {w : World} {g n : Nat} {A : Int} (h : Head w g n (Wd.dig A)) : HeadRow w g (dgs A n) := by
  obtain ⟨cur, h, hc⟩ := h
  exact ⟨cur, h, fun j hj => by rw [dgs_size] at hj; rw [hc j hj, dgs_get A n j hj]⟩

/-- A number of two words or more, copied. -/
theorem clone_nat (a : Option Addr) (n c : Nat) (A : Int) (w : World) (hl : Wd.Len A n) (hr : RowIs w a n c (Wd.dig A)) (hp : 0 < n) (hA : Sm A) :
    Calls Tryz.prog 127 #[.slice a n c] w fun e w' => ∃ g cap, e = .returned (.slice (some ⟨g, 0, none⟩) n cap) ∧ HeadRow w' g (dgs A n) ∧ w.heap.size ≤ g ∧ n ≤ cap ∧ cap ≤ 9223372036854775807 ∧ Below w.heap.size w w' := by
  obtain ⟨b, o, rfl, hb, hc⟩ := hr.2.2 hp
  refine (clone_pos b o n c w (Wd.dig A) hp (hA.len hl) hc).mono ?_
  rintro e w' ⟨g, cap, rfl, h, h1, h2, h3, h4⟩
  exact ⟨g, cap, rfl, head_dgs h, h1, h2, h3, h4⟩

theorem two_of {w1 w2 : World} {base g1 g2 n1 n2 c1 c2 : Nat} {A B : Int} (h1 : HeadRow w1 g1 (dgs A n1)) (hb : Below w1.heap.size w1 w2) (h2 : HeadRow w2 g2 (dgs B n2)) (b1 : base ≤ g1) (b2 : w1.heap.size ≤ g2) (l1 : Wd.Len A n1) (l2 : Wd.Len B n2) (k1 : n1 ≤ c1) (k2 : n2 ≤ c2) (k1' : c1 ≤ 9223372036854775807) (k2' : c2 ≤ 9223372036854775807) :
    OwnTwo base w2 (.slice (some ⟨g1, 0, none⟩) n1 c1) (.slice (some ⟨g2, 0, none⟩) n2 c2) A B := by
  have := h1.lt
  refine ⟨g1, g2, n1, n2, c1, c2, dgs A n1, dgs B n2, rfl, rfl, by omega, b1, by omega, h1.below hb h1.lt, h2, by rw [dgs_size]; exact Nat.le_refl _, by rw [dgs_size]; exact Nat.le_refl _, by rw [dgs_size]; exact k1, by rw [dgs_size]; exact k2, k1', k2', ?_, ?_, l1, l2, ?_, ?_⟩
  · rw [dgs_size]; exact dgs_w A n1
  · rw [dgs_size]; exact dgs_w B n2
  · rw [dgs_vl]; exact Wd.vl_dig_all l1.1 l1.2.1
  · rw [dgs_vl]; exact Wd.vl_dig_all l2.1 l2.2.1

set_option maxHeartbeats 4000000 in
set_option maxRecDepth 100000 in
theorem gcd_long (a a' : Option Addr) (n n' c c' : Nat) (A B : Int) (w : World) (hl : Wd.Len A n) (hra : RowIs w a n c (Wd.dig A)) (hl' : Wd.Len B n') (hrb : RowIs w a' n' c' (Wd.dig B)) (hA : Sm A) (hB : Sm B) (hAw : 18446744073709551616 ≤ A) (hBw : 18446744073709551616 ≤ B) :
    Calls Tryz.prog 104 #[.slice a n c, .slice a' n' c'] w fun e w' => ∃ v, e = .returned v ∧ NatIs w' v (Int.gcd A B) ∧ Below w.heap.size w w' := by
  have hn : 2 ≤ n := by
    rcases Nat.lt_or_ge n 2 with h3 | h3
    · have := Int.lt_of_lt_of_le hl.2.1 (Wd.pw_mono (m := n) (n := 1) (by omega))
      rw [Wd.pw_one] at this; omega
    · exact h3
  have hn' : 2 ≤ n' := by
    rcases Nat.lt_or_ge n' 2 with h3 | h3
    · have := Int.lt_of_lt_of_le hl'.2.1 (Wd.pw_mono (m := n') (n := 1) (by omega))
      rw [Wd.pw_one] at this; omega
    · exact h3
  have HO1 := hide (isOne_any (.slice a n c) A w ⟨_, _, _, rfl, hl, hra⟩)
  have HO2 := hide (isOne_any (.slice a' n' c') B w ⟨_, _, _, rfl, hl', hrb⟩)
  have HCM := hide (cmp_any (.slice a n c) (.slice a' n' c') A B w ⟨_, _, _, rfl, hl, hra⟩ ⟨_, _, _, rfl, hl', hrb⟩)
  rw [show (A == 1) = false by rw [beq_eq_false_iff_ne]; omega] at HO1
  rw [show (B == 1) = false by rw [beq_eq_false_iff_ne]; omega] at HO2
  have HCA := hide (fun (W : World) (hb : Below w.heap.size w W) => clone_nat a n c A W hl (hra.below hb) (by omega) hA)
  have HCB := hide (fun (W : World) (hb : Below w.heap.size w W) => clone_nat a' n' c' B W hl' (hrb.below hb) (by omega) hB)
  have HL := hide hl
  have HL' := hide hl'
  have hnc := hra.1
  have hcc := hra.2.1
  have hnc' := hrb.1
  have hcc' := hrb.2.1
  have HSA := hide hA
  have HSB := hide hB
  have d1 : decide (1 < (n : Int)) = true := decide_eq_true (by omega)
  have d2 : decide (1 < (n' : Int)) = true := decide_eq_true (by omega)
  clear hl hl' hra hrb hA hB
  rcases Int.lt_or_le A B with hlt | hge
  · rw [Wd.sg_lt hlt] at HCM
    have HGC := hide (Int.gcd_comm B A)
    go_enter Tryz.func104, Tryz.ntmps104
    go_wp2_with fail
    refine (unhide HO1).mono ?_
    rintro e w' ⟨rfl, hw'⟩
    obtain rfl := hw'.symm
    go_wp2_with fail
    refine (unhide HO2).mono ?_
    rintro e w' ⟨rfl, hw'⟩
    obtain rfl := hw'.symm
    go_wp2_with fail
    refine (unhide HCM).mono ?_
    rintro e w' ⟨rfl, k, hw'⟩
    subst hw'
    go_wp2_with fail
    refine (unhide HCB _ (below_drewN w k)).mono ?_
    rintro e w1 ⟨g1, q1, rfl, hh1, hg1, hq1, hq1', hb1⟩
    have g1e : (w.drewN k).heap.size = w.heap.size := rfl
    rw [g1e] at hg1 hb1
    have hbw1 : Below w.heap.size w w1 := (below_drewN w k).trans hb1
    have HC2 := hide (unhide HCA w1 hbw1)
    have HH1 := hide hh1
    have HBW1 := hide hbw1
    clear hh1 hb1 hbw1 HCA HCB HO1 HO2 HCM
    go_wp2_with fail
    refine (unhide HC2).mono ?_
    rintro e w2 ⟨g2, q2, rfl, hh2, hg2, hq2, hq2', hb2⟩
    have O := two_of (base := w.heap.size) (unhide HH1) hb2 hh2 hg1 hg2 (unhide HL') (unhide HL) hq1 hq2 hq1' hq2'
    have hbw2 : Below w.heap.size w w2 := below_on (unhide HBW1) hb2
    have HRD := hide (reduced_any _ _ B A w.heap.size w2 hbw2.size O (by omega) (unhide HSB))
    have HBW2 := hide hbw2
    clear hh2 hb2 O hbw2 HC2 HH1 HBW1
    go_wp2_with fail
    refine (unhide HRD).mono ?_
    rintro e w3 ⟨v1, v2, A2, B2, rfl, hv1, hv2, hB2w, hSA2, hG, hb3⟩
    have hbw3 : Below w.heap.size w w3 := (unhide HBW2).trans hb3
    have HN1 := hide hv1
    have HG := hide hG
    have HBW3 := hide hbw3
    have hA20 := hv1.nn
    obtain ⟨a1, m1, k1, rfl, hl1, hr1⟩ := hv1
    obtain ⟨a2, m2, k2, rfl, hl2, hr2⟩ := hv2
    clear hb3 hbw3 HRD HBW2 hG
    by_cases hz : B2 = 0
    · subst hz
      have hm0 : m2 = 0 := hl2.of_zero
      subst hm0
      have HF := hide (show (A2 : Int) = (Int.gcd A B : Int) by rw [← unhide HGC, ← unhide HG, Int.gcd_zero_right]; omega)
      clear hl1 hr1 hl2 hr2 HG hSA2
      go_wp2
      go_ret
      refine ⟨_, rfl, ?_, unhide HBW3⟩
      rw [← unhide HF]
      exact unhide HN1
    · have hBp : 0 < B2 := by have := hl2.1; omega
      obtain ⟨hn1, b, o, hab, hbl, hcw⟩ := natIs_word hl2 hr2 hBp hB2w
      subst hn1
      subst hab
      have hmod0 : 0 ≤ A2 % B2 := Int.emod_nonneg _ (by omega)
      have hmod1 : A2 % B2 < B2 := Int.emod_lt_of_pos _ hBp
      have HF := hide (show Int.gcd B2 (A2 % B2) = Int.gcd A B by rw [← unhide HGC, ← unhide HG, gcd_emod])
      have HDW := hide (divideWord_any (.slice a1 m1 k1) A2 B2 w3 (unhide HN1) hSA2 hBp hB2w)
      clear hl1 hr1 hl2 hr2 HG hSA2 HN1
      go_wp2_with fail
      refine (unhide HDW).mono ?_
      rintro e w4 ⟨v4, rfl, _, hb4⟩
      have hc4 : w4.cell? ⟨b, o, none⟩ = some (.int .u64 B2) := by rw [hb4.cell (p := ⟨b, o, none⟩) hbl]; exact hcw
      have HBW4 := hide (below_on (unhide HBW3) hb4)
      clear hb4 HDW hcw
      go_wp2_with fail
      refine (gcdWord_any B2 (A2 % B2) ⟨by omega, hB2w⟩ ⟨hmod0, by omega⟩ _).mono ?_
      rintro e w5 ⟨rfl, k5, hw5⟩
      subst hw5
      go_wp2_with fail
      refine (word_any _ (gcd_word ⟨by omega, hB2w⟩ ⟨hmod0, by omega⟩) _).mono ?_
      rintro e w6 ⟨v6, rfl, hv6, hb6⟩
      have hbw6 : Below w.heap.size w w6 := below_on (unhide HBW4) ((below_drewN w4 k5).trans hb6)
      clear hb6
      go_wp2
      go_ret
      refine ⟨_, rfl, ?_, hbw6⟩
      rw [← unhide HF]
      exact hv6
  · have hcs : ∃ t, Wd.sg A B = t ∧ 0 ≤ t ∧ t ≤ 1 := by
      rcases Int.lt_or_le B A with h | h
      · exact ⟨1, Wd.sg_gt h, by decide, by decide⟩
      · exact ⟨0, Wd.sg_eq (by omega), by decide, by decide⟩
    obtain ⟨t, ht, ht0, ht1⟩ := hcs
    rw [ht] at HCM
    have htd : decide (t < 0) = false := decide_eq_false (by omega)
    clear ht ht0 ht1
    go_enter Tryz.func104, Tryz.ntmps104
    go_wp2_with fail
    refine (unhide HO1).mono ?_
    rintro e w' ⟨rfl, hw'⟩
    obtain rfl := hw'.symm
    go_wp2_with fail
    refine (unhide HO2).mono ?_
    rintro e w' ⟨rfl, hw'⟩
    obtain rfl := hw'.symm
    go_wp2_with fail
    refine (unhide HCM).mono ?_
    rintro e w' ⟨rfl, k, hw'⟩
    subst hw'
    go_wp2_with fail
    refine (unhide HCA _ (below_drewN w k)).mono ?_
    rintro e w1 ⟨g1, q1, rfl, hh1, hg1, hq1, hq1', hb1⟩
    have g1e : (w.drewN k).heap.size = w.heap.size := rfl
    rw [g1e] at hg1 hb1
    have hbw1 : Below w.heap.size w w1 := (below_drewN w k).trans hb1
    have HC2 := hide (unhide HCB w1 hbw1)
    have HH1 := hide hh1
    have HBW1 := hide hbw1
    clear hh1 hb1 hbw1 HCA HCB HO1 HO2 HCM
    go_wp2_with fail
    refine (unhide HC2).mono ?_
    rintro e w2 ⟨g2, q2, rfl, hh2, hg2, hq2, hq2', hb2⟩
    have O := two_of (base := w.heap.size) (unhide HH1) hb2 hh2 hg1 hg2 (unhide HL) (unhide HL') hq1 hq2 hq1' hq2'
    have hbw2 : Below w.heap.size w w2 := below_on (unhide HBW1) hb2
    have HRD := hide (reduced_any _ _ A B w.heap.size w2 hbw2.size O (by omega) (unhide HSA))
    have HBW2 := hide hbw2
    clear hh2 hb2 O hbw2 HC2 HH1 HBW1
    go_wp2_with fail
    refine (unhide HRD).mono ?_
    rintro e w3 ⟨v1, v2, A2, B2, rfl, hv1, hv2, hB2w, hSA2, hG, hb3⟩
    have hbw3 : Below w.heap.size w w3 := (unhide HBW2).trans hb3
    have HN1 := hide hv1
    have HG := hide hG
    have HBW3 := hide hbw3
    have hA20 := hv1.nn
    obtain ⟨a1, m1, k1, rfl, hl1, hr1⟩ := hv1
    obtain ⟨a2, m2, k2, rfl, hl2, hr2⟩ := hv2
    clear hb3 hbw3 HRD HBW2 hG
    by_cases hz : B2 = 0
    · subst hz
      have hm0 : m2 = 0 := hl2.of_zero
      subst hm0
      have HF := hide (show (A2 : Int) = (Int.gcd A B : Int) by rw [← unhide HG, Int.gcd_zero_right]; omega)
      clear hl1 hr1 hl2 hr2 HG hSA2
      go_wp2
      go_ret
      refine ⟨_, rfl, ?_, unhide HBW3⟩
      rw [← unhide HF]
      exact unhide HN1
    · have hBp : 0 < B2 := by have := hl2.1; omega
      obtain ⟨hn1, b, o, hab, hbl, hcw⟩ := natIs_word hl2 hr2 hBp hB2w
      subst hn1
      subst hab
      have hmod0 : 0 ≤ A2 % B2 := Int.emod_nonneg _ (by omega)
      have hmod1 : A2 % B2 < B2 := Int.emod_lt_of_pos _ hBp
      have HF := hide (show Int.gcd B2 (A2 % B2) = Int.gcd A B by rw [← unhide HG, gcd_emod])
      have HDW := hide (divideWord_any (.slice a1 m1 k1) A2 B2 w3 (unhide HN1) hSA2 hBp hB2w)
      clear hl1 hr1 hl2 hr2 HG hSA2 HN1
      go_wp2_with fail
      refine (unhide HDW).mono ?_
      rintro e w4 ⟨v4, rfl, _, hb4⟩
      have hc4 : w4.cell? ⟨b, o, none⟩ = some (.int .u64 B2) := by rw [hb4.cell (p := ⟨b, o, none⟩) hbl]; exact hcw
      have HBW4 := hide (below_on (unhide HBW3) hb4)
      clear hb4 HDW hcw
      go_wp2_with fail
      refine (gcdWord_any B2 (A2 % B2) ⟨by omega, hB2w⟩ ⟨hmod0, by omega⟩ _).mono ?_
      rintro e w5 ⟨rfl, k5, hw5⟩
      subst hw5
      go_wp2_with fail
      refine (word_any _ (gcd_word ⟨by omega, hB2w⟩ ⟨hmod0, by omega⟩) _).mono ?_
      rintro e w6 ⟨v6, rfl, hv6, hb6⟩
      have hbw6 : Below w.heap.size w w6 := below_on (unhide HBW4) ((below_drewN w4 k5).trans hb6)
      clear hb6
      go_wp2
      go_ret
      refine ⟨_, rfl, ?_, hbw6⟩
      rw [← unhide HF]
      exact hv6

theorem gcd_any (va vb : Value) (A B : Int) (w : World) (ha : NatIs w va A) (hb : NatIs w vb B) (hAs : Sm A) (hBs : Sm B) :
    Calls Tryz.prog 104 #[va, vb] w fun e w' => ∃ v, e = .returned v ∧ NatIs w' v (Int.gcd A B) ∧ Below w.heap.size w w' := by
  rcases Int.lt_or_le A 18446744073709551616 with h | h
  · exact gcd_small va vb A B w ha hb hAs hBs (Or.inl h)
  rcases Int.lt_or_le B 18446744073709551616 with h2 | h2
  · exact gcd_small va vb A B w ha hb hAs hBs (Or.inr h2)
  obtain ⟨a, n, c, rfl, hl, hra⟩ := ha
  obtain ⟨a', n', c', rfl, hl', hrb⟩ := hb
  exact gcd_long a a' n n' c c' A B w hl hra hl' hrb hAs hBs h h2
end Go.Proofs.YtcelbgleajpenaaGreatDoor
