/- The library's: a builder's WriteString laid by hand; a word's decimal digits. -/
import Derived.Test.YtcelbgleajpenaaGreatDoorA8
import Derived.Shelf.Strings.Builder1
import Derived.Shelf.Strings.BuilderK
import Derived.Lib.ItoaMem
import Derived.Lib.AppendIntMem
import Derived.Deep.AppendLies
import Derived.Lib.ItoaNum
import Derived.Laws.OwnMore
namespace Go.Proofs.YtcelbgleajpenaaGreatDoor
open Go.RowKit Go.Sort Go.Shelf

def Tryz.lays166_ren : Go.Shelf.Ren := ⟨fun | 166 => 130 | 240 => 158 | 276 => 182 | n => n, fun | 0 => 0 | 3 => 3 | 4 => 4 | 9 => 9 | 20 => 20 | 37 => 168 | 70 => 167 | 72 => 170 | 75 => 39 | 80 => 93 | 164 => 153 | 5 => 5 | n => n, fun | n => n⟩
theorem Tryz.lays166 : Go.Proofs.Lays.n166 Tryz.prog Tryz.lays166_ren := {
 mixed := by kernel_rfl
 f166 := Tryz.func130.trans (congrArg some (by kernel_rfl))
 f240 := Tryz.func158.trans (congrArg some (by kernel_rfl))
 f276 := Tryz.func182.trans (congrArg some (by kernel_rfl))
 t0 := Tryz.underlying0
 a0 := Tryz.isAgg0
 z0 := Tryz.sizeOf0
 v0 := Tryz.zeroValue0
 t3 := Tryz.underlying3
 a3 := Tryz.isAgg3
 z3 := Tryz.sizeOf3
 v3 := Tryz.zeroValue3
 t4 := Tryz.underlying4
 a4 := Tryz.isAgg4
 z4 := Tryz.sizeOf4
 v4 := Tryz.zeroValue4
 t9 := Tryz.underlying9
 a9 := Tryz.isAgg9
 z9 := Tryz.sizeOf9
 v9 := Tryz.zeroValue9
 t20 := Tryz.underlying20
 a20 := Tryz.isAgg20
 z20 := Tryz.sizeOf20
 v20 := Tryz.zeroValue20
 t37 := Tryz.underlying168
 a37 := Tryz.isAgg168
 z37 := Tryz.sizeOf168
 v37 := Tryz.zeroValue168
 t70 := Tryz.underlying167
 a70 := Tryz.isAgg167
 z70 := Tryz.sizeOf167
 v70 := Tryz.zeroValue167
 t72 := Tryz.underlying170
 a72 := Tryz.isAgg170
 z72 := Tryz.sizeOf170
 v72 := Tryz.zeroValue170
 t75 := Tryz.underlying39
 a75 := Tryz.isAgg39
 z75 := Tryz.sizeOf39
 v75 := Tryz.zeroValue39
 t164 := Tryz.underlying153
 a164 := Tryz.isAgg153
 z164 := Tryz.sizeOf153
 v164 := Tryz.zeroValue153 }
theorem Tryz.Builder_Extra_166 : Builder.Extra Tryz.prog Tryz.lays166_ren := {
 sizeBuilder := by kernel_rfl
 liesBuilder := by kernel_rfl
 t5 := Tryz.underlying5
 a5 := Tryz.isAgg5
 z5 := Tryz.sizeOf5
 v5 := Tryz.zeroValue5
 infoByte := by kernel_rfl
 cellsByte := by kernel_rfl
 sizeByte := by kernel_rfl
 neB5 := by decide }

theorem writeString_any (B b : Nat) (bs : List Value) (s : ByteArray) (w : World) (h : Lib.IsBuilder 170 5 B b bs w) (hlen : bs.length + s.size ≤ 140737488355328) (hBw : B ≤ w.heap.size) :
  Calls Tryz.prog 130 #[.pointer (some ⟨b, 0, none⟩), .string s] w fun e w' => e = .returned (.tuple #[.int .i64 s.size, .nilIface]) ∧ (Lib.BuilderAt 170 5 B b (.pointer (some ⟨b, 0, none⟩)) (bs ++ Lib.strCells s) w' ∧ Below B w w') :=
 Any.Builder_WriteString Tryz.lays166 Tryz.Builder_Extra_166 B b bs s w h hlen hBw

theorem holds_zero0 (w : World) (T : TypeId) (nd : Nat) (hs : nd ≤ 24) : Holds (fun (b : UInt8) => Value.int .u8 (b.toNat : Int)) (w.alloc (.cells Lib.zeros24 T)) w.heap.size 0 (Array.replicate nd (0 : UInt8)) := fun j hj => by
 have hj' : j < nd := by simpa using hj
 refine ⟨?_, World.frozen?_alloc_new _ _ _ _⟩
 rw [World.cell?_alloc_new, Nat.zero_add, Lib.zeros24_at _ (by omega), getElem!_pos _ j hj]
 simp

abbrev Tab (w : World) : Prop := Lib.TabIs Tryz.prog w "internal/strconv.uint64pow10" .u64 Lib.pow10Tab

theorem tab_below {w w' : World} (h : Tab w) (hb : Below w.heap.size w w') : Tab w' := Lib.tabBelow_of_tabIs h w' hb

theorem below_putRowB {B g o : Nat} {w : World} (d : Array UInt8) (h : B ≤ g) : Below B w (putRow (fun (b : UInt8) => Value.int .u8 (b.toNat : Int)) w g o d) := by
 refine ⟨rfl, rfl, rfl, by simp [putRow, mapBlock], fun k hk => ?_⟩
 simp only [putRow, mapBlock, Array.getElem?_modify]
 rw [if_neg (by omega)]

set_option maxHeartbeats 2000000 in
set_option maxRecDepth 100000 in
theorem fmtUint_in (u : Nat) (hu64 : u < 18446744073709551616) (w : World) (htab : Tab w) :
  Calls Tryz.prog 159 #[.int .u64 u, .int .i64 10] w fun e w' => e = .returned (.string ⟨(Lib.decDigits u).toArray⟩) ∧ Below w.heap.size w w' := by
 by_cases hs : u < 100
 ·go_enter Tryz.func159, Tryz.ntmps159
  go_wp2_with (go_at_call 183; refine (Tryz.internal_strconv_small u hs _).mono ?_; rintro e w' ⟨rfl, hw'⟩; obtain rfl := hw'.symm)
  go_ret
  exact ⟨rfl, Below.refl _ _⟩
 ·have hu1 : 1 ≤ u := by omega
  have hnd20 : Lib.nDigits u ≤ 20 := by have := Lib.numDigits_eq u hu1 hu64; split at this <;> omega
  have hal : Tryz.prog.arrayLen 229 = 24 := by simp [Program.arrayLen, Tryz.underlying229]
  have hsl1 : ∀ W, (Instr.sliceAt 229 (.pointer (some ⟨w.heap.size, 0, none⟩)) none (some (.int .i64 (Lib.nDigits u : Int))) none).run Tryz.prog W = .ok (.slice (some ⟨w.heap.size, 0, none⟩) (Lib.nDigits u) 24) W := fun W => by
   rw [run_sliceAt_array_h W 229 ⟨w.heap.size, 0, none⟩ (by simp [Program.arrayLen, Program.elem, Tryz.underlying229]) .i64 (Lib.nDigits u : Int) (by omega) (by rw [hal]; omega)]
   go_simp
   try omega
  have hH0 := holds_zero0 w 229 (Lib.nDigits u) (by omega)
  have hfmt := Tryz.internal_strconv_formatBase10 w.heap.size 0 24 u (Array.replicate (Lib.nDigits u) 0) (w.alloc (.cells Lib.zeros24 229)) hH0 (by rw [Array.size_replicate]; exact Lib.lt_pow_nDigits u) hu64 (by rw [Array.size_replicate]; omega)
  rw [Array.size_replicate] at hfmt
  have HH0 := hide hH0
  have HF := hide hfmt
  clear hH0 hal hfmt
  go_enter Tryz.func159, Tryz.ntmps159
  go_wp2_with (go_at_call 184; refine (Tryz.internal_strconv_numDigits u hu1 hu64 _ (tab_below htab (alloc_below _ _))).mono ?_; rintro e w' ⟨rfl, hw'⟩; subst hw')
  refine (unhide HF).mono ?_
  rintro e w' ⟨rfl, k, v', dk, rfl, hF⟩
  have hcv : (convert 168 9 (.slice (some ⟨w.heap.size, 0, none⟩) (Lib.nDigits u) 24)).run Tryz.prog ((putRow (fun (b : UInt8) => Value.int .u8 (b.toNat : Int)) (w.alloc (.cells Lib.zeros24 229)) w.heap.size 0 dk).drewN k) = .ok (.string ⟨(Lib.decDigits u).toArray⟩) ((putRow (fun (b : UInt8) => Value.int .u8 (b.toNat : Int)) (w.alloc (.cells Lib.zeros24 229)) w.heap.size 0 dk).drewN k) := by
   have h := run_convert_bytes_back (P := Tryz.prog) ((putRow (fun (b : UInt8) => Value.int .u8 (b.toNat : Int)) (w.alloc (.cells Lib.zeros24 229)) w.heap.size 0 dk).drewN k) 168 9 5 ⟨w.heap.size, 0, none⟩ 24 (Lib.decDigits u) Tryz.underlying168 Tryz.underlying5 Tryz.underlying9 (fun j hj => by
    rw [Lib.add_plain, Lib.row_is_numeral hF j hj, World.cell?_drewN]
    exact cell?_putRow (fun (b : UInt8) => Value.int .u8 (b.toNat : Int)) _ w.heap.size 0 _ dk (unhide HH0) (by rw [hF.size, Array.size_replicate]) j (by rw [hF.size]; rw [Lib.decDigits_length] at hj; exact hj))
   rw [Lib.decDigits_length] at h
   exact h
  clear HF hF HH0
  go_wp2
  go_ret
  exact ⟨rfl, ((alloc_below w _).trans (below_putRowB dk (Nat.le_refl _))).trans (Below.mono (below_drewN _ _) (by simp [putRow, mapBlock]))⟩

theorem fmtUint_any (u : Nat) (hu64 : u < 18446744073709551616) (w : World) (htab : Tab w) :
  Calls Tryz.prog 131 #[.int .u64 u, .int .i64 10] w fun e w' => e = .returned (.string ⟨(Lib.decDigits u).toArray⟩) ∧ Below w.heap.size w w' := by
 have HF := hide (fmtUint_in u hu64 w htab)
 clear htab
 go_enter Tryz.func131, Tryz.ntmps131
 go_wp2_with (go_at_call 159; refine (unhide HF).mono ?_; rintro e w' ⟨rfl, hb⟩)
 go_ret
 exact ⟨rfl, hb⟩
end Go.Proofs.YtcelbgleajpenaaGreatDoor
/- A number's copy; its text. -/
namespace Go.Proofs.YtcelbgleajpenaaGreatDoor
open Go.RowKit Go.Sort Go.Shelf

def Head (w : World) (g n : Nat) (f : Nat → Int) : Prop := ∃ cur, w.heap[g]? = some (.cells cur 134 (0, 0)) ∧ ∀ j, j < n → cur[j]? = some (.int .u64 (f j))

def newsL (f : Nat → Int) (n : Nat) : List Value := (List.range n).map (fun j => .int .u64 (f j))
theorem newsL_length (f : Nat → Int) (n : Nat) : (newsL f n).length = n := by simp [newsL]
theorem newsL_get (f : Nat → Int) (n j : Nat) (v : Value) (h : (newsL f n)[j]? = some v) : j < n ∧ v = .int .u64 (f j) := by
 have hj : j < n := by
  have := (List.getElem?_eq_some_iff.1 h).1
  simpa [newsL] using this
 refine ⟨hj, ?_⟩
 simp [newsL, hj] at h
 exact h.symm

theorem head_of_owns {w : World} {base g n cap : Nat} {f : Nat → Int} (h : w.ownsRow base 134 1 (.slice (some ⟨g, 0, none⟩) n cap) n (newsL f n)) : Head w g n f ∧ base ≤ g ∧ n ≤ cap ∧ cap ≤ 9223372036854775807 := by
 obtain ⟨h1, h2⟩ := h
 rcases h2 with ⟨h2, _⟩ | ⟨g', cap', cur, hv, hb, hh, hn, hm, hs, ht⟩
 ·cases h2
 ·injection hv with e1 e2 e3
  injection e1 with e1
  injection e1 with e1
  subst e1; subst e3
  refine ⟨⟨cur, hh, fun j hj => ?_⟩, hb, hn, hm⟩
  have : (cur.toList.take (n * 1))[j]? = (newsL f n)[j]? := by rw [ht]
  rw [List.getElem?_take_of_lt (by omega)] at this
  simp [newsL, hj] at this
  simpa using this

theorem addr_add (b o j : Nat) : (⟨b, o, none⟩ : Addr).add j = ⟨b, o + j, none⟩ := by
 by_cases h : j = 0
 ·subst h; simp [Addr.add]
 ·simp [Addr.add, h]

set_option maxHeartbeats 1000000 in
set_option maxRecDepth 100000 in
theorem clone_pos (b o n c : Nat) (w : World) (f : Nat → Int) (hp : 0 < n) (hn : n ≤ 1099511627776) (hc : ∀ j, j < n → w.cell? ⟨b, o + j, none⟩ = some (.int .u64 (f j))) :
  Calls Tryz.prog 127 #[.slice (some ⟨b, o, none⟩) n c] w fun e w' => ∃ g cap, e = .returned (.slice (some ⟨g, 0, none⟩) n cap) ∧ Head w' g n f ∧ w.heap.size ≤ g ∧ n ≤ cap ∧ cap ≤ 9223372036854775807 ∧ Below w.heap.size w w' := by
 have q1 := fun (W : World) (a : Option Addr) (n c : Nat) => Lib.run_eql_slice_nil (P := Tryz.prog) W 35 134 a n c 0 0 Tryz.underlying35
 obtain ⟨i, hi, hz0, hz1, hz2⟩ := info_parts Tryz.info54
 have hblt : b < w.heap.size := World.block_lt_of_cell? _ ⟨b, o + 0, none⟩ (hc 0 hp)
 have hown : (w.alloc (.cells #[] 134)).ownsRow w.heap.size 134 1 (.slice (some ⟨w.heap.size, 0, none⟩) 0 0) 0 [] :=
  ⟨rfl, Or.inr ⟨w.heap.size, 0, #[], rfl, Nat.le_refl _, by show (w.heap.push _)[w.heap.size]? = _; simp, Nat.le_refl _, by decide, rfl, rfl⟩⟩
 have hnews : ∀ j u, (newsL f n)[j]? = some u → (w.alloc (.cells #[] 134)).cell? ((⟨b, o, none⟩ : Addr).add j) = some u := fun j u hu => by
  obtain ⟨hj, rfl⟩ := newsL_get _ _ _ _ hu
  rw [addr_add, (alloc_below w _).cell (p := ⟨b, o + j, none⟩) hblt]
  exact hc j hj
 have h1 : ∀ u ∈ newsL f n, u.oneCell' = true := fun u hu => by
  obtain ⟨j, hj⟩ := List.getElem?_of_mem hu
  obtain ⟨_, rfl⟩ := newsL_get _ _ _ _ hj
  rfl
 have HO := hide hown
 have HN := hide hnews
 have H1 := hide h1
 have H0 := hide hz0
 have HI := hide hi
 clear hc hown hnews h1 hz0 hi
 go_enter Tryz.func127, Tryz.ntmps127
 go_wp2_with (at_builtin; refine wpList_append_lies _ rfl _ _ _ rfl w.heap.size 134 i (.int .u64 0) 1 8 Tryz.underlying35 (unhide HI) (unhide H0) hz1 hz2 rfl (by omega) _ 0 [] rfl (unhide HO) ⟨b, o, none⟩ n c (newsL f n) rfl (by rw [newsL_length]; omega) (unhide HN) (unhide H1) hp (by unfold maxLen; omega) (by omega) (by simp) (w.heap.size + 1) (by simp) ?_; intro g cap w1 hown1 hgrow hat hlt)
 go_ret
 rw [Nat.zero_add, List.nil_append] at hown1
 have ⟨hh, hg, hnc, hcm⟩ := head_of_owns hown1
 refine ⟨g, cap, by rw [← Nat.zero_add n]; rfl, hh, hg, hnc, hcm, (alloc_below w _).trans (Below.grown (Below.refl _ _) hgrow (by simp) ?_)⟩
 intro k hk
 have : w.heap.size = k := Option.some.inj hk
 omega
end Go.Proofs.YtcelbgleajpenaaGreatDoor
/- Decimal digits: plain mathematics. -/
namespace Go.Dd
theorem toNat_dig (k : Nat) (h : k < 10) : (UInt8.ofNat (48 + k)).toNat = 48 + k := by
 simp; omega
theorem dec_ne (u : Nat) : Lib.decDigits u ≠ [] := by
 unfold Lib.decDigits; split <;> simp
end Go.Dd
/- A text's digits: where they end, and the number that they are. -/
namespace Go.Proofs.YtcelbgleajpenaaGreatDoor
open Go.RowKit Go.Sort Go.Shelf Go.Dd

end Go.Proofs.YtcelbgleajpenaaGreatDoor
/- A text of a fraction is cut, and read. -/
namespace Go.Proofs.YtcelbgleajpenaaGreatDoor
open Go.RowKit Go.Sort Go.Shelf Go.Dd

end Go.Proofs.YtcelbgleajpenaaGreatDoor
/- A text of a fraction is read. -/
namespace Go.Proofs.YtcelbgleajpenaaGreatDoor
open Go.RowKit Go.Sort Go.Shelf Go.Dd

end Go.Proofs.YtcelbgleajpenaaGreatDoor
/- A number's text. -/
namespace Go.Proofs.YtcelbgleajpenaaGreatDoor
open Go.RowKit Go.Sort Go.Shelf Go.Dd

theorem append_nothing (w : World) (ty : TypeId) (p : Addr) (c : Nat) (g : Nat) :
  (Builtin.append_ #[35, 35] ty #[.slice (some ⟨g, 0, none⟩) 0 0, .slice (some p) 0 c]).run Tryz.prog (w.alloc (.cells #[] 134)) = .ok (.slice (some ⟨g, 0, none⟩) 0 0) (w.alloc (.cells #[] 134)) := by
 obtain ⟨i, hi, hz0, hz1, hz2⟩ := info_parts Tryz.info54
 simp [Builtin.append_, run_underlying Tryz.underlying35, sizeOf, typeInfo, hi, Builtin.lenOf, Builtin.firstCells, loadCells, loadCellsFrom, storeCells]

set_option maxRecDepth 100000 in
theorem clone_zero (a : Option Addr) (c : Nat) (w : World) :
  Calls Tryz.prog 127 #[.slice a 0 c] w fun e w' => ∃ a' c', e = .returned (.slice a' 0 c') ∧ Below w.heap.size w w' := by
 have q1 := fun (W : World) (a : Option Addr) (n c : Nat) => Lib.run_eql_slice_nil (P := Tryz.prog) W 35 134 a n c 0 0 Tryz.underlying35
 cases a with
 | none =>
  go_enter Tryz.func127, Tryz.ntmps127
  go_wp2
  go_ret
  exact ⟨_, _, rfl, Below.refl _ _⟩
 | some p =>
  have q2 := fun ty => append_nothing w ty p c w.heap.size
  go_enter Tryz.func127, Tryz.ntmps127
  go_wp2
  go_ret
  exact ⟨_, _, rfl, alloc_below _ _⟩

theorem head_holds {w : World} {g : Nat} {x : Int} (h : Head w g 1 (fun _ => x)) : Holds enc w g 0 #[x] := fun j hj => by
 obtain ⟨cur, hh, hc⟩ := h
 have hj0 : j = 0 := by simpa using hj
 subst hj0
 refine ⟨?_, ?_⟩
 ·simp only [World.cell?, hh]
  simpa [enc] using hc 0 (by decide)
 ·simp [World.frozen?, hh]

theorem dig_one {N : Int} (h0 : 0 ≤ N) (h1 : N < 18446744073709551616) : Wd.dig N 0 = N := by
 simp [Wd.dig, Wd.pw]
 omega

structure PartAt (w : World) (wr : World) (N : Int) (vp : Value) : Prop where
 ex : ∃ g2 c2, vp = .slice (some ⟨g2, 0, none⟩) 1 c2 ∧ wr.cell? ⟨g2, 0, none⟩ = some (.int .u64 N)
 below : Below w.heap.size w wr

theorem owns_nil (w : World) (B : Nat) : w.ownsRow B 134 1 (.slice none 0 0) 0 [] := ⟨rfl, Or.inl ⟨rfl, rfl⟩⟩

theorem news_one {w : World} (x : Int) : ∀ j u, ([Value.int .u64 x] : List Value)[j]? = some u → (w.alloc (.cells #[.int .u64 x] 134)).cell? ((⟨w.heap.size, 0, none⟩ : Addr).add j) = some u := fun j u hu => by
 cases j with
 | zero =>
  simp at hu
  subst hu
  rw [addr_add, World.cell?_alloc_new]
  simp
 | succ j => simp at hu
end Go.Proofs.YtcelbgleajpenaaGreatDoor
