/- Idle machines. -/
import Derived.Test.YtepgdlgifempeaaDoorY13
namespace Go.Proofs.YtepgdlgifempeaaDoor
open Go.RowKit Go.Sort Stb Shp Hp

/-- All machines are in the pool. -/
def Pool (S : Nat → Prop) (w0 w : World) (pp m : Nat) (L : Nat → Int) : Prop := ∃ g cap f, HP S w0 w pp g m cap L f ∧ Heap (les L) f m ∧ Re 0 m id f
theorem Pool.keep {S : Nat → Prop} {w0 w w' : World} {pp m : Nat} {L : Nat → Int} (h : Pool S w0 w pp m L) (hb : Below w.heap.size w w') : Pool S w0 w' pp m L := by
  obtain ⟨g, cap, f, h1, h2⟩ := h
  exact ⟨g, cap, f, h1.keep hb, h2⟩
theorem re_puf {n : Nat} : ∀ {f f' : Nat → Nat}, Re 0 n id f → Re 0 (n + 1) (puf f n n) f' → Re 0 (n + 1) id f' := fun {f f'} h h' => by
  have e : puf f n n = f := by
    funext i
    unfold puf
    by_cases c : i = n
    · rw [if_pos c, h.out i (by omega)]; exact c.symm
    · rw [if_neg c]
  rw [e] at h'
  exact (h.mono (Nat.le_refl _) (Nat.le_succ n)).trans h'

set_option maxHeartbeats 8000000 in
set_option maxRecDepth 100000 in
set_option linter.unusedSimpArgs false in
theorem idle_any (m : Nat) (w : World) (hm : m ≤ 20) :
    Calls Tryd.prog 40 #[.int .i64 (m : Int)] w fun e w' => ∃ pp, e = .returned (.pointer (some ⟨pp, 0, none⟩)) ∧ Pool (fun k => k < w.heap.size) w w' pp m zer := by
  go_enter Tryd.func40, Tryd.ntmps40
  go_wp2_with fail
  have ba := alloc_below w (.cells #[] 77)
  have sa := alloc_size w (.cells #[] 77)
  have hr : PoolR (w.alloc (.cells #[] 77)) w.heap.size 0 0 zer id := ⟨#[], heap_alloc_new w _, rfl, Nat.le_refl _, Nat.zero_le _, fun i hi => absurd hi (Nat.not_lt_zero _)⟩
  obtain ⟨V1, hV1⟩ : ∃ V, w.alloc (.cells #[] 77) = V := ⟨_, rfl⟩
  obtain ⟨pp, hpp⟩ : ∃ b, w.heap.size + 1 = b := ⟨_, rfl⟩
  obtain ⟨g, hg⟩ : ∃ b, w.heap.size = b := ⟨_, rfl⟩
  rw [hV1] at ba sa hr
  rw [hpp] at sa
  rw [hg] at hr
  have bb := alloc_below V1 (.cells #[.slice (some ⟨g, 0, none⟩) 0 0] 89)
  have X0 := Box1.new 89 V1 (.slice (some ⟨g, 0, none⟩) 0 0)
  obtain ⟨V2, hV2⟩ : ∃ V, V1.alloc (.cells #[.slice (some ⟨g, 0, none⟩) 0 0] 89) = V := ⟨_, rfl⟩
  rw [hV2] at bb X0
  rw [sa] at X0
  have HP0 : Hid (Pool (fun k => k < w.heap.size) w V2 pp 0 zer) := ⟨g, 0, id, ⟨X0, hr.keep bb, ((Fr.refl _ w).step ba).step bb, ⟨by omega, by omega, by omega⟩, fun k hk => hk⟩, fun c hc hn => absurd hn (Nat.not_lt_zero _), Re.refl _ _ _⟩
  (try simp only [hpp])
  (try simp only [hV1, hg, hV2])
  clear ba sa hr bb X0
  clear hV1 hV2 hpp hg
  go_loopw [8] (fun vi wr => ∃ k : Nat, vi = .int .i64 (k : Int) ∧ k ≤ m ∧ Pool (fun k => k < w.heap.size) w wr pp k zer) (fun vi _ => m - (intOf vi).toNat)
  case atStart => exact ⟨0, rfl, Nat.zero_le _, unhide HP0⟩
  case round =>
    obtain ⟨k, rfl, hk, hP⟩ := hrel
    by_cases hlt : k < m
    · obtain ⟨g', cap, f, h1, h2, h3⟩ := hP
      have HPU := hide (hpush_any pp g' k cap zer f k (fun k => k < w.heap.size) w wr h1 (by omega) h2)
      unfold macV at HPU
      rw [show zer k = 0 from rfl] at HPU
      have e1 : (k : Int) < (m : Int) := by omega
      have e2 : IntKind.i64.wrap ((k : Int) + 1) = (k : Int) + 1 := by rw [IntKind.wrap_i64]; omega
      have H3 := hide h3
      clear h1 h2 h3
      go_wp2_with fail
      refine (unhide HPU).mono ?_
      rintro e w2 ⟨rfl, g5, cap5, f5, h5, h6, h7⟩
      have HP5 : Hid (Pool (fun k => k < w.heap.size) w w2 pp (k + 1) zer) := ⟨g5, cap5, f5, h5, h6, re_puf (unhide H3) h7⟩
      clear h5 h6 h7 HPU
      go_wp2_with fail
      exact ⟨⟨k + 1, by go_num, hlt, unhide HP5⟩, by simp [intOf]; omega⟩
    · obtain rfl : k = m := by omega
      have e1 : ¬ (k : Int) < (k : Int) := by omega
      have HPP := hide hP
      clear hP
      go_wp2
      (try simp only [Exit.inBlock, Exit.then])
      (try go_wp2)
      go_ret
      exact ⟨pp, rfl, unhide HPP⟩
end Go.Proofs.YtepgdlgifempeaaDoor
