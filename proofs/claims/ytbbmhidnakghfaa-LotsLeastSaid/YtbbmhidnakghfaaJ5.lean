/- The stable sort. -/
import Derived.Test.YtbbmhidnakghfaaJ4
namespace Go.Proofs.Ytbbmhidnakghfaa
open Go.RowKit Go.Sort Stb

theorem symMerge_any (g n : Nat) (cv : Nat → Nat → Int) (fk : Nat) (bd : Array Value) (w0 : World) (Inv : World → Prop) (CI : CmpInv g n cv fk bd Inv) (W0 : Wo n (ltc cv)) (hn : n ≤ 100000) (hge : w0.heap.size ≤ g) : ∀ (d a m b : Nat) (f : Nat → Nat) (w : World), b - a ≤ d → Mg n (ltc cv) f a m b → At w0 g n Inv f w →
    Calls Try.prog 27 #[.slice (some ⟨g, 0, none⟩) n n, .int .i64 (a : Int), .int .i64 (m : Int), .int .i64 (b : Int), .func (.func fk) #[] bd] w (SrPost w0 g n Inv cv a b f)
  | 0, a, m, b, f, w, hd, M, hA => by have := M.am; have := M.mb; omega
  | d + 1, a, m, b, f, w, hd, M, hA => by
    by_cases h1 : m = a + 1
    · exact mergeA_any g n a m b f cv fk bd w0 w Inv CI W0 hn M h1 hge hA
    · by_cases h2 : b = m + 1
      · exact mergeB_any g n a m b f cv fk bd w0 w Inv CI W0 hn M h1 h2 hge hA
      · exact mergeC_any g n a m b f cv fk bd w0 w Inv CI W0 hn M h1 h2 (fun a' m' b' f' w' M' h' hA' => symMerge_any g n cv fk bd w0 Inv CI W0 hn hge d a' m' b' f' w' (by omega) M' hA') hge hA

/-- What the sort leaves. -/
def SortPost (w0 : World) (g n : Nat) (Inv : World → Prop) (cv : Nat → Nat → Int) (f : Nat → Nat) (e : Ending) (w' : World) : Prop :=
  e = .returned (.tuple #[]) ∧ ∃ f' : Nat → Nat, At w0 g n Inv f' w' ∧ Re 0 n f f' ∧ Sr (ltc cv) f' 0 n
/-- How far it is. -/
structure Sta2 (w0 : World) (g n : Nat) (Inv : World → Prop) (cv : Nat → Nat → Int) (f f' : Nat → Nat) (w : World) : Prop where
  at_ : At w0 g n Inv f' w
  re : Re 0 n f f'
  st : Stl (ltc cv) f' 0 n
  rng : Rng n f'
theorem Sta2.next {w0 : World} {g n : Nat} {Inv : World → Prop} {cv : Nat → Nat → Int} {f f' f2 : Nat → Nat} {w w2 : World} (h : Sta2 w0 g n Inv cv f f' w) {a b : Nat} (hb : b ≤ n) (hA : At w0 g n Inv f2 w2) (hr : Re a b f' f2) (hs : Sr (ltc cv) f2 a b) : Sta2 w0 g n Inv cv f f2 w2 :=
  ⟨hA, h.re.trans (hr.mono (Nat.zero_le _) hb), stl_next h.st hb hr hs, hr.lt hb h.rng⟩

set_option maxHeartbeats 8000000 in
set_option maxRecDepth 100000 in
set_option linter.unusedSimpArgs false in
theorem stable_any (g n : Nat) (f : Nat → Nat) (cv : Nat → Nat → Int) (fk : Nat) (bd : Array Value) (w0 w : World) (Inv : World → Prop) (CI : CmpInv g n cv fk bd Inv) (W0 : Wo n (ltc cv)) (hn : n ≤ 10000) (hge : w0.heap.size ≤ g) (hA : At w0 g n Inv f w) (hf : Rng n f) (hst : Stl (ltc cv) f 0 n) :
    Calls Try.prog 25 #[.slice (some ⟨g, 0, none⟩) n n, .int .i64 (n : Int), .func (.func fk) #[] bd] w (SortPost w0 g n Inv cv f) := by
  have HIN : Hid (∀ (a b : Nat) (f' : Nat → Nat) (w' : World), a ≤ b → b ≤ n → Sta2 w0 g n Inv cv f f' w' → Calls Try.prog 26 #[.slice (some ⟨g, 0, none⟩) n n, .int .i64 (a : Int), .int .i64 (b : Int), .func (.func fk) #[] bd] w' (SrPost w0 g n Inv cv a b f')) := fun a b f' w' h1 h2 h3 => insertion_any g n a b f' cv fk bd w0 w' Inv CI W0 (by omega) h1 h2 hge h3.at_ h3.rng (h3.st.sub (Nat.zero_le _) h2)
  have HME : Hid (∀ (a m b : Nat) (f' : Nat → Nat) (w' : World), a < m → m < b → b ≤ n → Sr (ltc cv) f' a m → Sr (ltc cv) f' m b → Sta2 w0 g n Inv cv f f' w' → Calls Try.prog 27 #[.slice (some ⟨g, 0, none⟩) n n, .int .i64 (a : Int), .int .i64 (m : Int), .int .i64 (b : Int), .func (.func fk) #[] bd] w' (SrPost w0 g n Inv cv a b f')) := fun a m b f' w' h1 h2 h3 h4 h5 h6 => symMerge_any g n cv fk bd w0 Inv CI W0 (by omega) hge (b - a) a m b f' w' (Nat.le_refl _) ⟨h1, h2, h3, h6.rng, h4, h5, h6.st.sub (Nat.zero_le _) h3⟩ h6.at_
  have HS0 : Hid (Sta2 w0 g n Inv cv f f w) := ⟨hA, Re.refl _ _ _, hst, hf⟩
  clear CI W0 hge hA hf hst
  go_enter Try.func25, Try.ntmps25
  go_wp2_with fail
  go_loopw [7, 8] (fun va vb wr => ∃ (k : Nat) (f' : Nat → Nat), va = .int .i64 ((k * 20 : Nat) : Int) ∧ vb = .int .i64 ((k * 20 + 20 : Nat) : Int) ∧ k * 20 ≤ n ∧ Sta2 w0 g n Inv cv f f' wr ∧ Fst (ltc cv) f' 20 k) (fun va _ _ => n - (intOf va).toNat)
  case atStart => exact ⟨0, f, rfl, rfl, Nat.zero_le _, unhide HS0, fun j hj => by omega⟩
  case round =>
    obtain ⟨k, f', rfl, rfl, hk, hS, hF⟩ := hrel
    have HSS := hide hS
    have HFF := hide hF
    obtain ⟨a, ha⟩ : ∃ a, k * 20 = a := ⟨_, rfl⟩
    obtain ⟨b, hb⟩ : ∃ b, a + 20 = b := ⟨_, rfl⟩
    rw [ha] at hk ⊢
    rw [hb]
    have HKA := hide ha
    clear hS hF HS0 ha
    by_cases hlt : b ≤ n
    · have e1 : (b : Int) ≤ (n : Int) := by omega
      have e2 : IntKind.i64.wrap ((b : Int) + 20) = ((b + 20 : Nat) : Int) := by rw [IntKind.wrap_i64]; omega
      have HC := hide (unhide HIN a b f' wr (by omega) hlt (unhide HSS))
      obtain ⟨b', hb'⟩ : ∃ x, b + 20 = x := ⟨_, rfl⟩
      rw [hb'] at e2
      have HB := hide hb
      have HB' := hide hb'
      have HL := hide hlt
      have HK := hide hk
      clear hb hb' hlt hk
      go_wp2_with fail
      refine (unhide HC).mono ?_
      rintro e_ w2 ⟨rfl, f2, hA2, hr2, hs2⟩
      have HS2 := hide ((unhide HSS).next (unhide HL) hA2 hr2 hs2)
      have HF2 : Hid (Fst (ltc cv) f2 20 (k + 1)) := by
        have h := unhide HKA
        have h2 := unhide HB
        rw [← h2, ← h] at hr2 hs2
        exact fst_step (unhide HFF) hr2 hs2
      clear hA2 hr2 hs2 HC
      go_wp2_with fail
      have h1 := unhide HKA
      have h2 := unhide HB
      have h3 := unhide HB'
      have h4 := unhide HL
      exact ⟨⟨k + 1, f2, by rw [show (k + 1) * 20 = b by omega], by rw [show (k + 1) * 20 + 20 = b' by omega], by omega, unhide HS2, unhide HF2⟩, by simp [intOf]; omega⟩
    · have e1 : ¬ (b : Int) ≤ (n : Int) := by omega
      have HC := hide (unhide HIN a n f' wr hk (Nat.le_refl _) (unhide HSS))
      clear hb hlt hk
      go_wp2_with fail
      (try simp only [Exit.inBlock, Exit.then])
      (try go_wp2_with fail)
      refine (unhide HC).mono ?_
      rintro e_ w2 ⟨rfl, f2, hA2, hr2, hs2⟩
      have HS2 := hide ((unhide HSS).next (Nat.le_refl _) hA2 hr2 hs2)
      have HB2 : Hid (Blk (ltc cv) f2 20 n) := by
        rw [← unhide HKA] at hr2 hs2
        exact fst_done (unhide HFF) hr2 hs2
      clear hA2 hr2 hs2 HC HSS HFF HKA HIN e1
      go_wp2_with fail
      go_loopw [6] (fun vs wr => ∃ (s : Nat) (f' : Nat → Nat), vs = .int .i64 (s : Int) ∧ 20 ≤ s ∧ s ≤ 20000 ∧ Sta2 w0 g n Inv cv f f' wr ∧ Blk (ltc cv) f' s n) (fun vs _ => n - (intOf vs).toNat)
      case atStart => exact ⟨20, f2, rfl, Nat.le_refl _, by decide, unhide HS2, unhide HB2⟩
      case round =>
        obtain ⟨s, f', rfl, hs, hs', hS, hB⟩ := hrel
        have HSS := hide hS
        have HBB := hide hB
        clear hS hB HS2 HB2
        by_cases hlt : s < n
        · have e1 : (s : Int) < (n : Int) := by omega
          have e2 : IntKind.i64.wrap (2 * (s : Int)) = ((2 * s : Nat) : Int) := by rw [IntKind.wrap_i64]; omega
          have e3 : IntKind.i64.wrap ((s : Int) * 2) = ((2 * s : Nat) : Int) := by rw [IntKind.wrap_i64]; omega
          obtain ⟨t, ht⟩ : ∃ t, 2 * s = t := ⟨_, rfl⟩
          rw [ht] at e2 e3
          have HT := hide ht
          have HS1 := hide hs
          have HSN := hide hlt
          have ht2 : t ≤ 40000 := by omega
          clear ht hs hs' hlt
          go_wp2_with fail
          go_loopw [7, 8] (fun va vb wr => ∃ (k : Nat) (f' : Nat → Nat), va = .int .i64 ((k * t : Nat) : Int) ∧ vb = .int .i64 ((k * t + t : Nat) : Int) ∧ k * t ≤ n ∧ Sta2 w0 g n Inv cv f f' wr ∧ Mix (ltc cv) f' s n k) (fun va _ _ => n - (intOf va).toNat)
          case atStart => exact ⟨0, f', by simp, by simp, by simp, unhide HSS, mix_start (unhide HBB)⟩
          case round =>
            obtain ⟨k, f3, rfl, rfl, hk, hS, hM⟩ := hrel
            have HSS3 := hide hS
            have HMM := hide hM
            obtain ⟨a, ha⟩ : ∃ a, k * t = a := ⟨_, rfl⟩
            obtain ⟨b, hb⟩ : ∃ b, a + t = b := ⟨_, rfl⟩
            rw [ha] at hk ⊢
            rw [hb]
            have hT := unhide HT
            have hs := unhide HS1
            have HKA : Hid (k * (2 * s) = a) := by show k * (2 * s) = a; rw [hT]; exact ha
            obtain ⟨m, hm⟩ : ∃ m, a + s = m := ⟨_, rfl⟩
            clear hS hM HSS HBB ha
            by_cases hlt : b ≤ n
            · have e4 : (b : Int) ≤ (n : Int) := by omega
              have e5 := wadd hm (by omega)
              have e6 : IntKind.i64.wrap ((b : Int) + (t : Int)) = ((b + t : Nat) : Int) := by rw [IntKind.wrap_i64]; omega
              have HC : Hid (Calls Try.prog 27 #[.slice (some ⟨g, 0, none⟩) n n, .int .i64 (a : Int), .int .i64 (m : Int), .int .i64 (b : Int), .func (.func fk) #[] bd] wr (SrPost w0 g n Inv cv a b f3)) := by
                have h := mix_pair (b := b) (unhide HMM) hlt (by rw [unhide HKA]; omega) (by rw [unhide HKA]; omega)
                rw [unhide HKA, hm] at h
                exact unhide HME a m b f3 wr (by omega) (by omega) hlt h.1 h.2 (unhide HSS3)
              obtain ⟨b', hb'⟩ : ∃ x, b + t = x := ⟨_, rfl⟩
              rw [hb'] at e6
              have HB := hide hb
              have HB' := hide hb'
              have HL := hide hlt
              clear hb hb' hlt hk hm hs hT
              go_wp2_with fail
              refine (unhide HC).mono ?_
              rintro e_ w4 ⟨rfl, f4, hA2, hr2, hs2⟩
              have HS4 := hide ((unhide HSS3).next (unhide HL) hA2 hr2 hs2)
              have HM4 : Hid (Mix (ltc cv) f4 s n (k + 1)) := by
                have h := unhide HKA
                have h2 := unhide HB
                have h3 := unhide HT
                rw [← h2, ← h, ← h3] at hr2 hs2
                exact mix_step (unhide HMM) hr2 hs2
              clear hA2 hr2 hs2 HC
              go_wp2_with fail
              have h1 := unhide HKA
              have h2 := unhide HB
              have h3 := unhide HB'
              have h4 := unhide HL
              have h5 := unhide HT
              have h6 := unhide HS1
              rw [h5] at h1
              have h7 : (k + 1) * t = b := by rw [Nat.succ_mul, h1]; exact h2
              exact ⟨⟨k + 1, f4, by rw [h7], by rw [h7, h3], by rw [h7]; exact h4, unhide HS4, unhide HM4⟩, by simp [intOf]; omega⟩
            · have e4 : ¬ (b : Int) ≤ (n : Int) := by omega
              have e5 := wadd hm (by omega)
              by_cases hmn : m < n
              · have e6 : (m : Int) < (n : Int) := by omega
                have HC : Hid (Calls Try.prog 27 #[.slice (some ⟨g, 0, none⟩) n n, .int .i64 (a : Int), .int .i64 (m : Int), .int .i64 (n : Int), .func (.func fk) #[] bd] wr (SrPost w0 g n Inv cv a n f3)) := by
                  have h := mix_pair (b := n) (unhide HMM) (Nat.le_refl _) (by rw [unhide HKA]; omega) (by rw [unhide HKA]; omega)
                  rw [unhide HKA, hm] at h
                  exact unhide HME a m n f3 wr (by omega) hmn (Nat.le_refl _) h.1 h.2 (unhide HSS3)
                clear hb hlt hk hm hs hT hmn
                go_wp2_with fail
                (try simp only [Exit.inBlock, Exit.then])
                (try go_wp2_with fail)
                refine (unhide HC).mono ?_
                rintro e_ w4 ⟨rfl, f4, hA2, hr2, hs2⟩
                have HS4 := hide ((unhide HSS3).next (Nat.le_refl _) hA2 hr2 hs2)
                have HB4 : Hid (Blk (ltc cv) f4 t n) := by
                  rw [← unhide HKA] at hr2 hs2
                  rw [← unhide HT]
                  exact mix_done (unhide HMM) hr2 hs2
                clear hA2 hr2 hs2 HC
                go_wp2_with fail
                have h1 := unhide HT
                have h2 := unhide HS1
                have h3 := unhide HSN
                exact ⟨⟨t, f4, rfl, by omega, by omega, unhide HS4, unhide HB4⟩, by simp [intOf]; omega⟩
              · have e6 : ¬ (m : Int) < (n : Int) := by omega
                have HB4 : Hid (Blk (ltc cv) f3 t n) := by
                  have h := mix_end (unhide HMM) (by rw [unhide HKA]; omega)
                  rw [← unhide HT]
                  exact mix_done (unhide HMM) (Re.refl _ _ _) h
                clear hb hlt hk hm hs hT hmn
                go_wp2_with fail
                (try simp only [Exit.inBlock, Exit.then])
                (try go_wp2_with fail)
                have h1 := unhide HT
                have h2 := unhide HS1
                have h3 := unhide HSN
                exact ⟨⟨t, f3, rfl, by omega, by omega, unhide HSS3, unhide HB4⟩, by simp [intOf]; omega⟩
        · have e1 : ¬ (s : Int) < (n : Int) := by omega
          have HFIN := hide (blk_done (unhide HBB) (show n ≤ s by omega))
          clear hs hs' hlt
          go_wp2
          (try simp only [Exit.inBlock, Exit.then])
          (try go_wp2)
          exact bodyPost_ret (v := .tuple #[]) (by simp [results, Try.results25, go_sem]) rfl ⟨rfl, f', (unhide HSS).at_, (unhide HSS).re, unhide HFIN⟩

set_option maxHeartbeats 8000000 in
set_option maxRecDepth 100000 in
set_option linter.unusedSimpArgs false in
theorem sortStable_any (g n : Nat) (f : Nat → Nat) (cv : Nat → Nat → Int) (fk : Nat) (bd : Array Value) (w0 w : World) (Inv : World → Prop) (CI : CmpInv g n cv fk bd Inv) (W0 : Wo n (ltc cv)) (hn : n ≤ 10000) (hge : w0.heap.size ≤ g) (hA : At w0 g n Inv f w) (hf : Rng n f) (hst : Stl (ltc cv) f 0 n) :
    Calls Try.prog 22 #[.slice (some ⟨g, 0, none⟩) n n, .func (.func fk) #[] bd] w (SortPost w0 g n Inv cv f) := by
  have HIN := hide (stable_any g n f cv fk bd w0 w Inv CI W0 hn hge hA hf hst)
  clear CI W0 hge hA hf hst
  go_enter Try.func22, Try.ntmps22
  go_wp2_with fail
  refine (unhide HIN).mono ?_
  rintro e w2 ⟨rfl, hpost⟩
  have HPO := hide hpost
  clear hpost HIN
  go_wp2
  exact bodyPost_ret (v := .tuple #[]) (by simp [results, Try.results22, go_sem]) rfl ⟨rfl, unhide HPO⟩
end Go.Proofs.Ytbbmhidnakghfaa
