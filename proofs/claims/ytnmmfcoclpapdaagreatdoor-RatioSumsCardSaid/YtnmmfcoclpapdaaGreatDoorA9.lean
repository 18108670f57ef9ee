/- The library's: a builder's WriteString laid by hand; a word's decimal digits. -/
import Derived.Test.YtnmmfcoclpapdaaGreatDoorA8
import Derived.Shelf.Strings.Builder1
import Derived.Shelf.Strings.BuilderK
import Derived.Lib.ItoaMem
import Derived.Lib.AppendIntMem
import Derived.Deep.AppendLies
import Derived.Lib.ItoaNum
import Derived.Laws.OwnMore
namespace Go.Proofs.YtnmmfcoclpapdaaGreatDoor
open Go.RowKit Go.Sort Go.Shelf

def Tryz.lays166_ren : Go.Shelf.Ren := ⟨fun | 166 => 129 | 240 => 164 | 276 => 185 | n => n, fun | 0 => 0 | 3 => 3 | 4 => 4 | 9 => 9 | 20 => 20 | 37 => 157 | 70 => 156 | 72 => 159 | 75 => 32 | 80 => 43 | 164 => 181 | 5 => 5 | n => n, fun | n => n⟩
theorem Tryz.lays166 : Go.Proofs.Lays.n166 Tryz.prog Tryz.lays166_ren := {
  mixed := by kernel_rfl
  f166 := Tryz.func129.trans (congrArg some (by kernel_rfl))
  f240 := Tryz.func164.trans (congrArg some (by kernel_rfl))
  f276 := Tryz.func185.trans (congrArg some (by kernel_rfl))
  t0 := Tryz.underlying0
  a0 := Tryz.isAgg0
  z0 := Tryz.sizeOf0
  v0 := Tryz.zeroValue0
  t3 := Tryz.underlying3
  a3 := Tryz.isAgg3
  z3 := Tryz.sizeOf3
  v3 := Tryz.zeroValue3
  t4 := Tryz.underlying4
  a4 := Tryz.isAgg4
  z4 := Tryz.sizeOf4
  v4 := Tryz.zeroValue4
  t9 := Tryz.underlying9
  a9 := Tryz.isAgg9
  z9 := Tryz.sizeOf9
  v9 := Tryz.zeroValue9
  t20 := Tryz.underlying20
  a20 := Tryz.isAgg20
  z20 := Tryz.sizeOf20
  v20 := Tryz.zeroValue20
  t37 := Tryz.underlying157
  a37 := Tryz.isAgg157
  z37 := Tryz.sizeOf157
  v37 := Tryz.zeroValue157
  t70 := Tryz.underlying156
  a70 := Tryz.isAgg156
  z70 := Tryz.sizeOf156
  v70 := Tryz.zeroValue156
  t72 := Tryz.underlying159
  a72 := Tryz.isAgg159
  z72 := Tryz.sizeOf159
  v72 := Tryz.zeroValue159
  t75 := Tryz.underlying32
  a75 := Tryz.isAgg32
  z75 := Tryz.sizeOf32
  v75 := Tryz.zeroValue32
  t164 := Tryz.underlying181
  a164 := Tryz.isAgg181
  z164 := Tryz.sizeOf181
  v164 := Tryz.zeroValue181 }
theorem Tryz.Builder_Extra_166 : Builder.Extra Tryz.prog Tryz.lays166_ren := {
  sizeBuilder := by kernel_rfl
  liesBuilder := by kernel_rfl
  t5 := Tryz.underlying5
  a5 := Tryz.isAgg5
  z5 := Tryz.sizeOf5
  v5 := Tryz.zeroValue5
  infoByte := by kernel_rfl
  cellsByte := by kernel_rfl
  sizeByte := by kernel_rfl
  neB5 := by decide }

theorem writeString_any (B b : Nat) (bs : List Value) (s : ByteArray) (w : World) (h : Lib.IsBuilder 159 5 B b bs w) (hlen : bs.length + s.size ≤ 140737488355328) (hBw : B ≤ w.heap.size) :
    Calls Tryz.prog 129 #[.pointer (some ⟨b, 0, none⟩), .string s] w fun e w' => e = .returned (.tuple #[.int .i64 s.size, .nilIface]) ∧ (Lib.BuilderAt 159 5 B b (.pointer (some ⟨b, 0, none⟩)) (bs ++ Lib.strCells s) w' ∧ Below B w w') :=
  Any.Builder_WriteString Tryz.lays166 Tryz.Builder_Extra_166 B b bs s w h hlen hBw

/-- The new array's bytes from its head on are a row of noughts. -/
theorem holds_zero0 (w : World) (T : TypeId) (nd : Nat) (hs : nd ≤ 24) : Holds (fun (b : UInt8) => Value.int .u8 (b.toNat : Int)) (w.alloc (.cells Lib.zeros24 T)) w.heap.size 0 (Array.replicate nd (0 : UInt8)) := fun j hj => by
  have hj' : j < nd := by simpa using hj
  refine ⟨?_, World.frozen?_alloc_new _ _ _ _⟩
  rw [World.cell?_alloc_new, Nat.zero_add, Lib.zeros24_at _ (by omega), getElem!_pos _ j hj]
  simp

/-- The table that the numerals are counted by. -/
abbrev Tab (w : World) : Prop := Lib.TabIs Tryz.prog w "internal/strconv.uint64pow10" .u64 Lib.pow10Tab

theorem tab_below {w w' : World} (h : Tab w) (hb : Below w.heap.size w w') : Tab w' := Lib.tabBelow_of_tabIs h w' hb

theorem below_putRowB {B g o : Nat} {w : World} (d : Array UInt8) (h : B ≤ g) : Below B w (putRow (fun (b : UInt8) => Value.int .u8 (b.toNat : Int)) w g o d) := by
  refine ⟨rfl, rfl, rfl, by simp [putRow, mapBlock], fun k hk => ?_⟩
  simp only [putRow, mapBlock, Array.getElem?_modify]
  rw [if_neg (by omega)]

set_option maxHeartbeats 2000000 in
set_option maxRecDepth 100000 in
theorem fmtUint_in (u : Nat) (hu64 : u < 18446744073709551616) (w : World) (htab : Tab w) :
    Calls Tryz.prog 165 #[.int .u64 u, .int .i64 10] w fun e w' => e = .returned (.string ⟨(Lib.decDigits u).toArray⟩) ∧ Below w.heap.size w w' := by
  by_cases hs : u < 100
  · go_enter Tryz.func165, Tryz.ntmps165
    go_wp2_with (go_at_call 186; refine (Tryz.internal_strconv_small u hs _).mono ?_; rintro e w' ⟨rfl, hw'⟩; obtain rfl := hw'.symm)
    go_ret
    exact ⟨rfl, Below.refl _ _⟩
  · have hu1 : 1 ≤ u := by omega
    have hnd20 : Lib.nDigits u ≤ 20 := by have := Lib.numDigits_eq u hu1 hu64; split at this <;> omega
    have hal : Tryz.prog.arrayLen 226 = 24 := by simp [Program.arrayLen, Tryz.underlying226]
    have hsl1 : ∀ W, (Instr.sliceAt 226 (.pointer (some ⟨w.heap.size, 0, none⟩)) none (some (.int .i64 (Lib.nDigits u : Int))) none).run Tryz.prog W = .ok (.slice (some ⟨w.heap.size, 0, none⟩) (Lib.nDigits u) 24) W := fun W => by
      rw [run_sliceAt_array_h W 226 ⟨w.heap.size, 0, none⟩ (by simp [Program.arrayLen, Program.elem, Tryz.underlying226]) .i64 (Lib.nDigits u : Int) (by omega) (by rw [hal]; omega)]
      go_simp
      try omega
    have hH0 := holds_zero0 w 226 (Lib.nDigits u) (by omega)
    have hfmt := Tryz.internal_strconv_formatBase10 w.heap.size 0 24 u (Array.replicate (Lib.nDigits u) 0) (w.alloc (.cells Lib.zeros24 226)) hH0 (by rw [Array.size_replicate]; exact Lib.lt_pow_nDigits u) hu64 (by rw [Array.size_replicate]; omega)
    rw [Array.size_replicate] at hfmt
    have HH0 := hide hH0
    have HF := hide hfmt
    clear hH0 hal hfmt
    go_enter Tryz.func165, Tryz.ntmps165
    go_wp2_with (go_at_call 187; refine (Tryz.internal_strconv_numDigits u hu1 hu64 _ (tab_below htab (alloc_below _ _))).mono ?_; rintro e w' ⟨rfl, hw'⟩; subst hw')
    refine (unhide HF).mono ?_
    rintro e w' ⟨rfl, k, v', dk, rfl, hF⟩
    have hcv : (convert 157 9 (.slice (some ⟨w.heap.size, 0, none⟩) (Lib.nDigits u) 24)).run Tryz.prog ((putRow (fun (b : UInt8) => Value.int .u8 (b.toNat : Int)) (w.alloc (.cells Lib.zeros24 226)) w.heap.size 0 dk).drewN k) = .ok (.string ⟨(Lib.decDigits u).toArray⟩) ((putRow (fun (b : UInt8) => Value.int .u8 (b.toNat : Int)) (w.alloc (.cells Lib.zeros24 226)) w.heap.size 0 dk).drewN k) := by
      have h := run_convert_bytes_back (P := Tryz.prog) ((putRow (fun (b : UInt8) => Value.int .u8 (b.toNat : Int)) (w.alloc (.cells Lib.zeros24 226)) w.heap.size 0 dk).drewN k) 157 9 5 ⟨w.heap.size, 0, none⟩ 24 (Lib.decDigits u) Tryz.underlying157 Tryz.underlying5 Tryz.underlying9 (fun j hj => by
        rw [Lib.add_plain, Lib.row_is_numeral hF j hj, World.cell?_drewN]
        exact cell?_putRow (fun (b : UInt8) => Value.int .u8 (b.toNat : Int)) _ w.heap.size 0 _ dk (unhide HH0) (by rw [hF.size, Array.size_replicate]) j (by rw [hF.size]; rw [Lib.decDigits_length] at hj; exact hj))
      rw [Lib.decDigits_length] at h
      exact h
    clear HF hF HH0
    go_wp2
    go_ret
    exact ⟨rfl, ((alloc_below w _).trans (below_putRowB dk (Nat.le_refl _))).trans (Below.mono (below_drewN _ _) (by simp [putRow, mapBlock]))⟩

theorem fmtUint_any (u : Nat) (hu64 : u < 18446744073709551616) (w : World) (htab : Tab w) :
    Calls Tryz.prog 130 #[.int .u64 u, .int .i64 10] w fun e w' => e = .returned (.string ⟨(Lib.decDigits u).toArray⟩) ∧ Below w.heap.size w w' := by
  have HF := hide (fmtUint_in u hu64 w htab)
  clear htab
  go_enter Tryz.func130, Tryz.ntmps130
  go_wp2_with (go_at_call 165; refine (unhide HF).mono ?_; rintro e w' ⟨rfl, hb⟩)
  go_ret
  exact ⟨rfl, hb⟩
end Go.Proofs.YtnmmfcoclpapdaaGreatDoor
/- A number's copy; its text. -/
namespace Go.Proofs.YtnmmfcoclpapdaaGreatDoor
open Go.RowKit Go.Sort Go.Shelf

/-- n words at the head of block g, which is a row of the call's own with room behind them perhaps. -/
def Head (w : World) (g n : Nat) (f : Nat → Int) : Prop := ∃ cur, w.heap[g]? = some (.cells cur 114 (0, 0)) ∧ ∀ j, j < n → cur[j]? = some (.int .u64 (f j))

def newsL (f : Nat → Int) (n : Nat) : List Value := (List.range n).map (fun j => .int .u64 (f j))
theorem newsL_length (f : Nat → Int) (n : Nat) : (newsL f n).length = n := by simp [newsL]
theorem newsL_get (f : Nat → Int) (n j : Nat) (v : Value) (h : (newsL f n)[j]? = some v) : j < n ∧ v = .int .u64 (f j) := by
  have hj : j < n := by
    have := (List.getElem?_eq_some_iff.1 h).1
    simpa [newsL] using this
  refine ⟨hj, ?_⟩
  simp [newsL, hj] at h
  exact h.symm

theorem head_of_owns {w : World} {base g n cap : Nat} {f : Nat → Int} (h : w.ownsRow base 114 1 (.slice (some ⟨g, 0, none⟩) n cap) n (newsL f n)) : Head w g n f ∧ base ≤ g ∧ n ≤ cap ∧ cap ≤ 9223372036854775807 := by
  obtain ⟨h1, h2⟩ := h
  rcases h2 with ⟨h2, _⟩ | ⟨g', cap', cur, hv, hb, hh, hn, hm, hs, ht⟩
  · cases h2
  · injection hv with e1 e2 e3
    injection e1 with e1
    injection e1 with e1
    subst e1; subst e3
    refine ⟨⟨cur, hh, fun j hj => ?_⟩, hb, hn, hm⟩
    have : (cur.toList.take (n * 1))[j]? = (newsL f n)[j]? := by rw [ht]
    rw [List.getElem?_take_of_lt (by omega)] at this
    simp [newsL, hj] at this
    simpa using this

theorem addr_add (b o j : Nat) : (⟨b, o, none⟩ : Addr).add j = ⟨b, o + j, none⟩ := by
  by_cases h : j = 0
  · subst h; simp [Addr.add]
  · simp [Addr.add, h]

set_option maxHeartbeats 1000000 in
set_option maxRecDepth 100000 in
theorem clone_pos (b o n c : Nat) (w : World) (f : Nat → Int) (hp : 0 < n) (hn : n ≤ 1099511627776) (hc : ∀ j, j < n → w.cell? ⟨b, o + j, none⟩ = some (.int .u64 (f j))) :
    Calls Tryz.prog 127 #[.slice (some ⟨b, o, none⟩) n c] w fun e w' => ∃ g cap, e = .returned (.slice (some ⟨g, 0, none⟩) n cap) ∧ Head w' g n f ∧ w.heap.size ≤ g ∧ n ≤ cap ∧ cap ≤ 9223372036854775807 ∧ Below w.heap.size w w' := by
  have q1 := fun (W : World) (a : Option Addr) (n c : Nat) => Lib.run_eql_slice_nil (P := Tryz.prog) W 25 114 a n c 0 0 Tryz.underlying25
  obtain ⟨i, hi, hz0, hz1, hz2⟩ := info_parts Tryz.info54
  have hblt : b < w.heap.size := World.block_lt_of_cell? _ ⟨b, o + 0, none⟩ (hc 0 hp)
  have hown : (w.alloc (.cells #[] 114)).ownsRow w.heap.size 114 1 (.slice (some ⟨w.heap.size, 0, none⟩) 0 0) 0 [] :=
    ⟨rfl, Or.inr ⟨w.heap.size, 0, #[], rfl, Nat.le_refl _, by show (w.heap.push _)[w.heap.size]? = _; simp, Nat.le_refl _, by decide, rfl, rfl⟩⟩
  have hnews : ∀ j u, (newsL f n)[j]? = some u → (w.alloc (.cells #[] 114)).cell? ((⟨b, o, none⟩ : Addr).add j) = some u := fun j u hu => by
    obtain ⟨hj, rfl⟩ := newsL_get _ _ _ _ hu
    rw [addr_add, (alloc_below w _).cell (p := ⟨b, o + j, none⟩) hblt]
    exact hc j hj
  have h1 : ∀ u ∈ newsL f n, u.oneCell' = true := fun u hu => by
    obtain ⟨j, hj⟩ := List.getElem?_of_mem hu
    obtain ⟨_, rfl⟩ := newsL_get _ _ _ _ hj
    rfl
  have HO := hide hown
  have HN := hide hnews
  have H1 := hide h1
  have H0 := hide hz0
  have HI := hide hi
  clear hc hown hnews h1 hz0 hi
  go_enter Tryz.func127, Tryz.ntmps127
  go_wp2_with (at_builtin; refine wpList_append_lies _ rfl _ _ _ rfl w.heap.size 114 i (.int .u64 0) 1 8 Tryz.underlying25 (unhide HI) (unhide H0) hz1 hz2 rfl (by omega) _ 0 [] rfl (unhide HO) ⟨b, o, none⟩ n c (newsL f n) rfl (by rw [newsL_length]; omega) (unhide HN) (unhide H1) hp (by unfold maxLen; omega) (by omega) (by simp) (w.heap.size + 1) (by simp) ?_; intro g cap w1 hown1 hgrow hat hlt)
  go_ret
  rw [Nat.zero_add, List.nil_append] at hown1
  have ⟨hh, hg, hnc, hcm⟩ := head_of_owns hown1
  refine ⟨g, cap, by rw [← Nat.zero_add n]; rfl, hh, hg, hnc, hcm, (alloc_below w _).trans (Below.grown (Below.refl _ _) hgrow (by simp) ?_)⟩
  intro k hk
  have : w.heap.size = k := Option.some.inj hk
  omega
end Go.Proofs.YtnmmfcoclpapdaaGreatDoor
/- Decimal digits: plain mathematics. -/
namespace Go.Dd
/-- The number of decimal digits. -/
def dval (acc : Int) : List UInt8 → Int
  | [] => acc
  | b :: r => dval (10 * acc + ((b.toNat : Int) - 48)) r
def IsDig (b : UInt8) : Prop := 48 ≤ b.toNat ∧ b.toNat ≤ 57
theorem dval_append (acc : Int) (l r : List UInt8) : dval acc (l ++ r) = dval (dval acc l) r := by
  induction l generalizing acc with
  | nil => rfl
  | cons b l ih => simp only [List.cons_append, dval]; exact ih _
theorem toNat_dig (k : Nat) (h : k < 10) : (UInt8.ofNat (48 + k)).toNat = 48 + k := by
  simp; omega
theorem dval_dec (u : Nat) : dval 0 (Lib.decDigits u) = u := by
  induction u using Nat.strongRecOn with
  | _ u ih =>
    unfold Lib.decDigits
    split
    · rename_i h
      simp only [dval, toNat_dig u h]; omega
    · rename_i h
      rw [dval_append, ih (u / 10) (by omega)]
      simp only [dval, toNat_dig (u % 10) (by omega)]; omega
theorem dec_digs (u : Nat) : ∀ b, b ∈ Lib.decDigits u → IsDig b := by
  induction u using Nat.strongRecOn with
  | _ u ih =>
    unfold Lib.decDigits
    split
    · rename_i h
      intro b hb
      simp only [List.mem_singleton] at hb
      subst hb
      unfold IsDig; rw [toNat_dig u h]; omega
    · rename_i h
      intro b hb
      rcases List.mem_append.1 hb with hb | hb
      · exact ih (u / 10) (by omega) b hb
      · simp only [List.mem_singleton] at hb
        subst hb
        unfold IsDig; rw [toNat_dig (u % 10) (by omega)]; omega
theorem dec_ne (u : Nat) : Lib.decDigits u ≠ [] := by
  unfold Lib.decDigits; split <;> simp
theorem dval_nn (acc : Int) (l : List UInt8) (h : ∀ b, b ∈ l → IsDig b) (h0 : 0 ≤ acc) : 0 ≤ dval acc l := by
  induction l generalizing acc with
  | nil => exact h0
  | cons b l ih =>
    have := h b (by simp)
    unfold IsDig at this
    exact ih _ (fun c hc => h c (by simp [hc])) (by omega)
theorem dval_lt (acc : Int) (l : List UInt8) (k : Nat) (h : ∀ b, b ∈ l → IsDig b) (h0 : acc < 10 ^ k) : dval acc l < 10 ^ (k + l.length) := by
  induction l generalizing acc k with
  | nil => exact h0
  | cons b l ih =>
    have := h b (by simp)
    unfold IsDig at this
    have := ih (10 * acc + ((b.toNat : Int) - 48)) (k + 1) (fun c hc => h c (by simp [hc])) (by rw [Int.pow_succ]; omega)
    rw [show k + (b :: l).length = k + 1 + l.length by simp; omega]
    exact this
end Go.Dd
/- A text's digits: where they end, and the number that they are. -/
namespace Go.Proofs.YtnmmfcoclpapdaaGreatDoor
open Go.RowKit Go.Sort Go.Shelf Go.Dd

set_option maxHeartbeats 1000000 in
theorem digitsEnd_any (s : ByteArray) (f : Nat) (w : World) (hs : s.size ≤ 9223372036854775806) (hf : f ≤ s.size) :
    Calls Tryz.prog 145 #[.string s, .int .i64 f] w fun e w' => ∃ k : Nat, e = .returned (.int .i64 (k : Int)) ∧ f ≤ k ∧ k ≤ s.size ∧ (∀ j (h : j < s.size), f ≤ j → j < k → IsDig s[j]) ∧ (∀ h : k < s.size, ¬ IsDig s[k]) ∧ w' = w := by
  go_enter Tryz.func145, Tryz.ntmps145
  go_wp2
  go_loop [1] (fun v => ∃ k : Nat, v = .int .i64 (k : Int) ∧ f ≤ k ∧ k ≤ s.size ∧ (∀ j (h : j < s.size), f ≤ j → j < k → IsDig s[j])) (fun v => s.size - (intOf v).toNat)
  case atStart => exact ⟨f, rfl, Nat.le_refl _, hf, fun j _ h1 h2 => absurd h1 (Nat.not_le.2 h2)⟩
  case round =>
    obtain ⟨k, rfl, h1, h2, h3⟩ := hrel
    have H3 := hide h3
    clear h3
    by_cases hlt : k < s.size
    · by_cases hd : IsDig s[k]
      · have hd1 : (48 : Int) ≤ (s[k].toNat : Int) := by have := hd.1; omega
        have hd2 : (s[k].toNat : Int) ≤ 57 := by have := hd.2; omega
        have HD := hide hd
        clear hd
        go_wp2
        refine ⟨⟨k + 1, by go_num, by omega, hlt, fun j h ha hb => ?_⟩, by simp [intOf]; omega⟩
        rcases Nat.lt_or_ge j k with h' | h'
        · exact unhide H3 j h ha h'
        · have : j = k := by omega
          subst this
          exact unhide HD
      · have HD := hide hd
        have hd' : (s[k].toNat : Int) < 48 ∨ 57 < (s[k].toNat : Int) := by unfold IsDig at hd; omega
        clear hd
        rcases hd' with hd' | hd'
        · go_wp2
          go_ret
          exact ⟨k, rfl, h1, h2, unhide H3, fun _ => unhide HD, rfl⟩
        · by_cases h48 : (48 : Int) ≤ (s[k].toNat : Int)
          · go_wp2
            go_ret
            exact ⟨k, rfl, h1, h2, unhide H3, fun _ => unhide HD, rfl⟩
          · exfalso; omega
    · go_wp2
      go_ret
      exact ⟨k, rfl, h1, h2, unhide H3, fun h => absurd h hlt, rfl⟩

theorem pow10_mono {m n : Nat} (h : m ≤ n) : (10 : Int) ^ m ≤ 10 ^ n := by
  obtain ⟨k, rfl⟩ := Nat.exists_eq_add_of_le h
  rw [Int.pow_add]
  have h1 : (0 : Int) < 10 ^ m := Int.pow_pos (by decide)
  have h2 : (0 : Int) < 10 ^ k := Int.pow_pos (by decide)
  have h3 : (1 : Int) ≤ 10 ^ k := by omega
  have h4 := Int.mul_le_mul_of_nonneg_left h3 (Int.le_of_lt h1)
  omega
theorem small_dval {l : List UInt8} (h : ∀ b, b ∈ l → IsDig b) (hl : l.length ≤ 40) : dval 0 l < Wd.pw 3 := by
  have h1 := dval_lt 0 l 0 h (by decide)
  have h2 := pow10_mono (m := 0 + l.length) (n := 40) (by omega)
  have h3 : (10 : Int) ^ 40 < Wd.pw 3 := by decide
  omega

theorem take_snocB (s : ByteArray) (k : Nat) (h : k < s.size) : s.data.toList.take (k + 1) = s.data.toList.take k ++ [s[k]] := by
  rw [List.take_succ_eq_append_getElem (by simpa using h)]; rfl

set_option maxHeartbeats 2000000 in
set_option maxRecDepth 100000 in
theorem digits_any (s : ByteArray) (w : World) (hs : s.size ≤ 40) (hd : ∀ b, b ∈ s.data.toList → IsDig b) :
    Calls Tryz.prog 95 #[.string s] w fun e w' => ∃ v, e = .returned v ∧ NatIs w' v (dval 0 s.data.toList) ∧ Below w.heap.size w w' := by
  go_enter Tryz.func95, Tryz.ntmps95
  go_wp2
  go_loopw [3, 7] (fun v vi wr => ∃ i : Nat, vi = .int .i64 (i : Int) ∧ i ≤ s.size ∧ NatIs wr v (dval 0 (s.data.toList.take i)) ∧ Below w.heap.size w wr) (fun _ vi _ => s.size - (intOf vi).toNat)
  case atStart => exact ⟨0, rfl, Nat.zero_le _, natIs_zero _ _ _ (by decide), Below.refl _ _⟩
  case round =>
    obtain ⟨i, rfl, hi, hv, hb⟩ := hrel
    by_cases hlt : i < s.size
    · have hdi := hd s[i] (by exact List.getElem_mem (l := s.data.toList) (by simpa using hlt))
      have hd1 : (48 : Int) ≤ (s[i].toNat : Int) := by have := hdi.1; omega
      have hd2 : (s[i].toNat : Int) ≤ 57 := by have := hdi.2; omega
      have hds : ∀ b, b ∈ s.data.toList.take i → IsDig b := fun b hb => hd b (List.mem_of_mem_take hb)
      have hsm := small_dval hds (by simp; omega)
      have hnn := dval_nn 0 _ hds (by decide)
      have hE : dval 0 (s.data.toList.take (i + 1)) = dval 0 (s.data.toList.take i) * 10 + ((s[i].toNat : Int) - 48) := by
        rw [take_snocB s i hlt, dval_append]; simp only [dval]; omega
      obtain ⟨D, hD⟩ : ∃ D, dval 0 (s.data.toList.take i) = D := ⟨_, rfl⟩
      rw [hD] at hE hsm hnn hv
      have HE := hide hE
      have HV := hide hv
      have HB := hide hb
      have HWR : Hid (IntKind.u64.wrap (IntKind.u8.wrap ((s[i].toNat : Int) - 48)) = (s[i].toNat : Int) - 48) := by
        show IntKind.u64.wrap (IntKind.u8.wrap ((s[i].toNat : Int) - 48)) = (s[i].toNat : Int) - 48
        rw [IntKind.wrap_u64]
        simp [IntKind.wrap, IntKind.bits, IntKind.signed]
        omega
      have hw48 : Wd.W64 ((s[i].toNat : Int) - 48) := ⟨by omega, by omega⟩
      have m1 : D * 10 < Wd.pw 4 := mul_small (j := 3) (k := 1) (by decide) hsm (by decide)
      clear hE hdi hds hD hv hb hd
      go_wp2_with fail
      go_region_held3 (fun _ => True) (trivial)
        (first | (go_at_call_of 111 (Value.int .u64 10); refine (word_any 10 ⟨by decide, by decide⟩ _).mono ?_; rintro e w3 ⟨v3, rfl, hv3, hr3⟩) | (go_at_call 83; refine (mul_any _ _ _ _ _ (((unhide HV).below (below_drew_ge _ _)).below hr3) hv3 (sm_of hsm (by decide)) (sm_word (by decide))).mono ?_; rintro e w4 ⟨v4, rfl, hv4, hr4⟩) | (go_at_call 111; rw [unhide HWR]; refine (word_any _ hw48 _).mono ?_; rintro e w5 ⟨v5, rfl, hv5, hr5⟩; have hv45 := hv4.below hr5) | (go_at_call 69; refine (add_any _ _ _ _ _ hv45 hv5 (sm_of m1 (by decide)) (sm_word (by omega))).mono ?_; rintro e w6 ⟨v6, rfl, hv6, hr6⟩))
      all_goals
        have hb6 : Below w.heap.size w w6 := below_step (below_step (below_step (below_step ((unhide HB).trans (below_drew_ge _ _)) hr3) hr4) hr5) hr6
        rw [← unhide HE] at hv6
        have HV6 := hide hv6
        have HB6 := hide hb6
        clear hv3 hv4 hv5 hv45 hv6 hr3 hr4 hr5 hr6 hb6
        go_wp2
        exact ⟨⟨i + 1, by go_num, hlt, unhide HV6, unhide HB6⟩, by simp [intOf]; omega⟩
    · obtain rfl : i = s.size := by omega
      have e : s.data.toList.take s.size = s.data.toList := List.take_of_length_le (by simp)
      rw [e] at hv
      have HV := hide hv
      have HB := hide hb
      clear hv hb e
      go_wp2
      go_ret
      exact ⟨_, rfl, unhide HV, unhide HB⟩
end Go.Proofs.YtnmmfcoclpapdaaGreatDoor
/- A text of a fraction is cut, and read. -/
namespace Go.Proofs.YtnmmfcoclpapdaaGreatDoor
open Go.RowKit Go.Sort Go.Shelf Go.Dd

theorem extract_list (s : ByteArray) (a b : Nat) : (s.extract a b).data.toList = (s.data.toList.drop a).take (b - a) := by
  rw [ByteArray.data_extract, Array.toList_extract, List.extract_eq_take_drop]
theorem extract_drop (s : ByteArray) (a : Nat) : (s.extract a s.size).data.toList = s.data.toList.drop a := by
  rw [extract_list, List.take_of_length_le (by rw [List.length_drop, Array.length_toList]; exact Nat.le_refl _)]

set_option maxHeartbeats 2000000 in
set_option maxRecDepth 100000 in
theorem cut_whole (s : ByteArray) (f : Nat) (w : World) (hf : f = 0 ∨ f = 1) (hp : Lib.hasPrefix s.data.toList [45] = decide (f = 1)) (hfk : f < s.size) (hd1 : ∀ j (h : j < s.size), f ≤ j → IsDig s[j]) (hsz : s.size ≤ 1000) :
    Calls Tryz.prog 94 #[.string s] w fun e w' => ∃ o : ByteArray, e = .returned (.tuple #[.string o, .string ⟨#[49]⟩, .nilIface]) ∧ o.data.toList = s.data.toList.drop f ∧ w' = w := by
  have HD := hide hd1
  have HP := hide (Tryz.strings_HasPrefix s ⟨#[45]⟩ w)
  have e45 : (⟨#[45]⟩ : ByteArray).data.toList = [45] := rfl
  rw [e45, hp] at HP
  have HE := hide (digitsEnd_any s f w (by omega) (by omega))
  clear hd1 hp e45
  have z1 : ((s.size : Int) == (f : Int)) = false := by rw [beq_eq_false_iff_ne]; omega
  rcases hf with rfl | rfl
  · go_enter Tryz.func94, Tryz.ntmps94
    go_wp2_with fail
    refine (unhide HP).mono ?_
    rintro e w' ⟨rfl, hw'⟩
    obtain rfl := hw'.symm
    go_wp2_with fail
    refine (unhide HE).mono ?_
    rintro e w' ⟨k, rfl, hk1, hk2, _, hk4, hw'⟩
    obtain rfl := hw'.symm
    have hk : k = s.size := by
      rcases Nat.lt_or_ge k s.size with h | h
      · exact absurd (unhide HD k h hk1) (hk4 h)
      · omega
    subst hk
    clear hk4 HE HP
    go_wp2
    go_ret3
    exact ⟨s, rfl, rfl, rfl⟩
  · go_enter Tryz.func94, Tryz.ntmps94
    go_wp2_with fail
    refine (unhide HP).mono ?_
    rintro e w' ⟨rfl, hw'⟩
    obtain rfl := hw'.symm
    go_wp2_with fail
    refine (unhide HE).mono ?_
    rintro e w' ⟨k, rfl, hk1, hk2, _, hk4, hw'⟩
    obtain rfl := hw'.symm
    have hk : k = s.size := by
      rcases Nat.lt_or_ge k s.size with h | h
      · exact absurd (unhide HD k h hk1) (hk4 h)
      · omega
    subst hk
    clear hk4 HE HP
    go_wp2
    go_ret3
    exact ⟨s.extract 1 s.size, rfl, extract_drop s 1, rfl⟩

set_option maxHeartbeats 2000000 in
set_option maxRecDepth 100000 in
theorem cut_frac (s : ByteArray) (f k : Nat) (w : World) (hf : f = 0 ∨ f = 1) (hp : Lib.hasPrefix s.data.toList [45] = decide (f = 1)) (hfk : f < k) (hk : k + 1 < s.size) (hks : k < s.size) (h47 : s[k] = 47)
    (hd1 : ∀ j (h : j < s.size), f ≤ j → j < k → IsDig s[j]) (hd2 : ∀ j (h : j < s.size), k < j → IsDig s[j]) (hsz : s.size ≤ 1000) :
    Calls Tryz.prog 94 #[.string s] w fun e w' => ∃ o : ByteArray, e = .returned (.tuple #[.string o, .string (s.extract (k + 1) s.size), .nilIface]) ∧ o.data.toList = (s.data.toList.drop f).take (k - f) ∧ ∃ q, w' = w.drewN q := by
  have HD1 := hide hd1
  have HD2 := hide hd2
  have HP := hide (Tryz.strings_HasPrefix s ⟨#[45]⟩ w)
  have e45 : (⟨#[45]⟩ : ByteArray).data.toList = [45] := rfl
  rw [e45, hp] at HP
  have HE := hide (digitsEnd_any s f w (by omega) (by omega))
  have HE2 := hide (digitsEnd_any s (k + 1) w (by omega) (by omega))
  have h47' : (s[k].toNat : Int) = 47 := by rw [h47]; rfl
  have hnd : ¬ IsDig s[k] := by rw [h47]; unfold IsDig; decide
  have HND := hide hnd
  have H47 := hide h47'
  clear hd1 hd2 hp e45 h47 h47' hnd
  have z1 : ((k : Int) == (f : Int)) = false := by rw [beq_eq_false_iff_ne]; omega
  have z2 : ((k : Int) == (s.size : Int)) = false := by rw [beq_eq_false_iff_ne]; omega
  have z3 : ((s.size : Int) == (k : Int) + 1) = false := by rw [beq_eq_false_iff_ne]; omega
  obtain ⟨x, hx⟩ : ∃ x, (s[k].toNat : Int) = x := ⟨_, rfl⟩
  have hx47 : x = 47 := by rw [← hx]; exact unhide H47
  have z4 : ((s[k].toNat : Int) != 47) = false := by rw [hx, hx47]; rfl
  clear hx hx47 H47
  rcases hf with rfl | rfl
  · go_enter Tryz.func94, Tryz.ntmps94
    go_wp2_with fail
    refine (unhide HP).mono ?_
    rintro e w' ⟨rfl, hw'⟩
    obtain rfl := hw'.symm
    go_wp2_with fail
    refine (unhide HE).mono ?_
    rintro e w' ⟨k', rfl, hk1, hk2, hk3, hk4, hw'⟩
    obtain rfl := hw'.symm
    have hkk : k' = k := by
      rcases Nat.lt_trichotomy k' k with h | h | h
      · exact absurd (unhide HD1 k' (by omega) hk1 h) (hk4 (by omega))
      · exact h
      · exact absurd (hk3 k hks (by omega) h) (unhide HND)
    subst hkk
    clear hk3 hk4 HE HP HND HD1
    go_wp2_with fail
    refine (unhide HE2).mono ?_
    rintro e w' ⟨k2, rfl, hj1, hj2, _, hj4, hw'⟩
    obtain rfl := hw'.symm
    have hkk : k2 = s.size := by
      rcases Nat.lt_or_ge k2 s.size with h | h
      · exact absurd (unhide HD2 k2 h (by omega)) (hj4 h)
      · omega
    subst hkk
    clear hj4 HE2 HD2
    go_wp2_with fail
    go_quiet (fail)
    go_wp2
    go_ret3
    exact ⟨s.extract 0 k', rfl, extract_list s 0 k', _, rfl⟩
  · go_enter Tryz.func94, Tryz.ntmps94
    go_wp2_with fail
    refine (unhide HP).mono ?_
    rintro e w' ⟨rfl, hw'⟩
    obtain rfl := hw'.symm
    go_wp2_with fail
    refine (unhide HE).mono ?_
    rintro e w' ⟨k', rfl, hk1, hk2, hk3, hk4, hw'⟩
    obtain rfl := hw'.symm
    have hkk : k' = k := by
      rcases Nat.lt_trichotomy k' k with h | h | h
      · exact absurd (unhide HD1 k' (by omega) hk1 h) (hk4 (by omega))
      · exact h
      · exact absurd (hk3 k hks (by omega) h) (unhide HND)
    subst hkk
    clear hk3 hk4 HE HP HND HD1
    go_wp2_with fail
    refine (unhide HE2).mono ?_
    rintro e w' ⟨k2, rfl, hj1, hj2, _, hj4, hw'⟩
    obtain rfl := hw'.symm
    have hkk : k2 = s.size := by
      rcases Nat.lt_or_ge k2 s.size with h | h
      · exact absurd (unhide HD2 k2 h (by omega)) (hj4 h)
      · omega
    subst hkk
    clear hj4 HE2 HD2
    go_wp2_with fail
    go_quiet (fail)
    go_wp2
    go_ret3
    exact ⟨s.extract 1 k', rfl, extract_list s 1 k', _, rfl⟩
end Go.Proofs.YtnmmfcoclpapdaaGreatDoor
/- A text of a fraction is read. -/
namespace Go.Proofs.YtnmmfcoclpapdaaGreatDoor
open Go.RowKit Go.Sort Go.Shelf Go.Dd

set_option maxHeartbeats 4000000 in
set_option maxRecDepth 100000 in
theorem parse_core (s : ByteArray) (neg : Bool) (D1 D2 : List UInt8) (U : Nat) (w : World) (hs0 : 0 < s.size) (hneg : ((s[0].toNat : Int) == 45) = neg) (h1 : ∀ b, b ∈ D1 → IsDig b) (h2 : ∀ b, b ∈ D2 → IsDig b) (hl1 : D1.length ≤ 40) (hl2 : D2.length ≤ 40)
    (hU : dval 0 D2 = U) (hU0 : U ≠ 0) (hUw : (U : Int) < 18446744073709551616)
    (HC : ∀ w1, Calls Tryz.prog 94 #[.string s] w1 fun e w' => ∃ o u : ByteArray, e = .returned (.tuple #[.string o, .string u, .nilIface]) ∧ o.data.toList = D1 ∧ u.data.toList = D2 ∧ ∃ q, w' = w1.drewN q) :
    Calls Tryz.prog 39 #[.string s] w fun e w' => ∃ v, e = .returned (.tuple #[v, .nilIface]) ∧ RatIs w' v (mkRat (sn neg (dval 0 D1)) U) ∧ Below w.heap.size w w' := by
  have HC' := hide HC
  have N1 := hide h1
  have N2 := hide h2
  have HU := hide hU

  have s0 : (0 : Int) < s.size := by omega
  clear HC h1 h2 hU
  obtain ⟨W, hW⟩ : ∃ W, w.alloc (.cells #[.bool false, .slice none 0 0, .slice none 0 0] 27) = W := ⟨_, rfl⟩
  have hbW : Below w.heap.size w W := by rw [← hW]; exact (Below.refl _ _).alloc (Nat.le_refl _) _
  have S0 : ∀ w', Below W.heap.size W w' → w'.heap[w.heap.size]? = some (.cells #[.bool false, .slice none 0 0, .slice none 0 0] 27) ∧ w.heap.size < w'.heap.size := fun w' h => by
    rw [← hW] at h
    exact box3 h
  have HS0 := hide S0
  have HWE := hide hW
  have HBW := hide hbW
  have hsmD := small_dval (unhide N1) hl1
  have HSM := hide hsmD
  clear hW hbW S0 hsmD
  go_enter Tryz.func39, Tryz.ntmps39
  go_wp2_with fail
  rw [unhide HWE]
  refine (unhide HC' _).mono ?_
  rintro e w1 ⟨o, u, rfl, ho, hu, q, hw1⟩
  subst hw1
  have hb1 := below_drewN W q
  have hol : (o.size : Int) ≤ 40 := by have : o.size = D1.length := by rw [← ho]; exact (Array.length_toList (xs := o.data)).symm
                                       omega
  have hul : (u.size : Int) ≤ 40 := by have : u.size = D2.length := by rw [← hu]; exact (Array.length_toList (xs := u.data)).symm
                                       omega
  have d1 : decide ((40 : Int) < (o.size : Int)) = false := decide_eq_false (by omega)
  have d2 : decide ((40 : Int) < (u.size : Int)) = false := decide_eq_false (by omega)
  have HO := hide ho
  have HUu := hide hu
  have HOL := hide hol
  have HUL := hide hul
  clear hol hul
  clear ho hu
  go_wp2_with fail
  refine (digits_any u _ (by have := unhide HUL; omega) (by rw [unhide HUu]; exact unhide N2)).mono ?_
  rintro e w2 ⟨v2, rfl, hv2, hr2⟩
  rw [unhide HUu, unhide HU] at hv2
  have hb2 := below_step hb1 hr2
  have hV2 := hide hv2
  obtain ⟨a2, n2, c2, rfl, hl2', _⟩ := hv2
  have hn2 : n2 ≠ 0 := by intro h; subst h; have := hl2'.zero; omega
  have z2 : ((n2 : Int) == 0) = false := by rw [beq_eq_false_iff_ne]; omega
  clear hl2' hn2 hb1 hr2
  go_wp2_with fail
  go_region_held3 (fun _ => True) (trivial)
    (first | (go_at_call 95; refine (digits_any o _ (by have := unhide HOL; omega) (by rw [unhide HO]; exact unhide N1)).mono ?_; rintro e w3 ⟨v3, rfl, hv3, hr3⟩; rw [unhide HO] at hv3; have hb3 := below_step (hb2.trans (below_drew_ge _ _)) hr3; have hV23 := hide (((unhide hV2).below (below_drew_ge _ _)).below hr3)) | (go_at_call 96; refine (lowered_small neg _ _ _ _ _ hv3 (unhide hV23) (sm_of (unhide HSM) (by decide)) hU0 hUw).mono ?_; rintro e w4 ⟨v4, rfl, hv4, hr4⟩; have hb4 := below_step hb3 hr4; have HV4 := hide hv4; obtain ⟨ov8, un8, rfl, hov8, hun8⟩ := hv4; obtain ⟨a18, n18, c18, rfl, _, _⟩ := hov8; obtain ⟨a19, n19, c19, rfl, _, _⟩ := hun8; have ⟨hbx, hsz⟩ := unhide HS0 _ hb4; have ⟨g0, g1, g2, f0, f1, f2⟩ := box_cell hbx; have HBX := hide hbx; clear hbx))
  all_goals
    go_wp2
    have ⟨r1, r2⟩ := rat_boxed (w0 := w) (unhide HV4) (unhide HBX) (below_step (unhide HBW) hb4) (Nat.le_refl _) (Value.bool (decide ((mkRat (sn neg (dval 0 D1)) U).num < 0))) (Value.slice a18 n18 c18) (Value.slice a19 n19 c19)
    exact bodyPost_ret (v := .tuple #[.agg #[.bool (decide ((mkRat (sn neg (dval 0 D1)) U).num < 0)), .slice a18 n18 c18, .slice a19 n19 c19], .nilIface]) (by simp [results, Tryz.results39, go_sem, g0, g1, g2]) rfl ⟨_, rfl, r1, r2⟩
end Go.Proofs.YtnmmfcoclpapdaaGreatDoor
/- A number's text. -/
namespace Go.Proofs.YtnmmfcoclpapdaaGreatDoor
open Go.RowKit Go.Sort Go.Shelf Go.Dd

theorem append_nothing (w : World) (ty : TypeId) (p : Addr) (c : Nat) (g : Nat) :
    (Builtin.append_ #[25, 25] ty #[.slice (some ⟨g, 0, none⟩) 0 0, .slice (some p) 0 c]).run Tryz.prog (w.alloc (.cells #[] 114)) = .ok (.slice (some ⟨g, 0, none⟩) 0 0) (w.alloc (.cells #[] 114)) := by
  obtain ⟨i, hi, hz0, hz1, hz2⟩ := info_parts Tryz.info54
  simp [Builtin.append_, run_underlying Tryz.underlying25, sizeOf, typeInfo, hi, Builtin.lenOf, Builtin.firstCells, loadCells, loadCellsFrom, storeCells]

set_option maxRecDepth 100000 in
theorem clone_zero (a : Option Addr) (c : Nat) (w : World) :
    Calls Tryz.prog 127 #[.slice a 0 c] w fun e w' => ∃ a' c', e = .returned (.slice a' 0 c') ∧ Below w.heap.size w w' := by
  have q1 := fun (W : World) (a : Option Addr) (n c : Nat) => Lib.run_eql_slice_nil (P := Tryz.prog) W 25 114 a n c 0 0 Tryz.underlying25
  cases a with
  | none =>
    go_enter Tryz.func127, Tryz.ntmps127
    go_wp2
    go_ret
    exact ⟨_, _, rfl, Below.refl _ _⟩
  | some p =>
    have q2 := fun ty => append_nothing w ty p c w.heap.size
    go_enter Tryz.func127, Tryz.ntmps127
    go_wp2
    go_ret
    exact ⟨_, _, rfl, alloc_below _ _⟩

theorem head_holds {w : World} {g : Nat} {x : Int} (h : Head w g 1 (fun _ => x)) : Holds enc w g 0 #[x] := fun j hj => by
  obtain ⟨cur, hh, hc⟩ := h
  have hj0 : j = 0 := by simpa using hj
  subst hj0
  refine ⟨?_, ?_⟩
  · simp only [World.cell?, hh]
    simpa [enc] using hc 0 (by decide)
  · simp [World.frozen?, hh]

theorem dig_one {N : Int} (h0 : 0 ≤ N) (h1 : N < 18446744073709551616) : Wd.dig N 0 = N := by
  simp [Wd.dig, Wd.pw]
  omega

theorem row_of_head {w : World} {g n c : Nat} {f : Nat → Int} (h : Head w g n f) (hc : n ≤ c) (hm : c ≤ 9223372036854775807) : RowIs w (some ⟨g, 0, none⟩) n c f := by
  obtain ⟨cur, hh, hv⟩ := h
  refine ⟨hc, hm, fun _ => ⟨g, 0, rfl, (Array.getElem?_eq_some_iff.1 hh).1, fun j hj => ?_⟩⟩
  simp only [World.cell?, hh, Nat.zero_add]
  exact hv j hj

/-- One round of the parts. -/
structure PartAt (w : World) (wr : World) (N : Int) (vp : Value) : Prop where
  ex : ∃ g2 c2, vp = .slice (some ⟨g2, 0, none⟩) 1 c2 ∧ wr.cell? ⟨g2, 0, none⟩ = some (.int .u64 N)
  below : Below w.heap.size w wr

theorem owns_nil (w : World) (B : Nat) : w.ownsRow B 114 1 (.slice none 0 0) 0 [] := ⟨rfl, Or.inl ⟨rfl, rfl⟩⟩

theorem news_one {w : World} (x : Int) : ∀ j u, ([Value.int .u64 x] : List Value)[j]? = some u → (w.alloc (.cells #[.int .u64 x] 114)).cell? ((⟨w.heap.size, 0, none⟩ : Addr).add j) = some u := fun j u hu => by
  cases j with
  | zero =>
    simp at hu
    subst hu
    rw [addr_add, World.cell?_alloc_new]
    simp
  | succ j => simp at hu
end Go.Proofs.YtnmmfcoclpapdaaGreatDoor
