/- The document's LotsPlan: the walk, the whole. -/
import Derived.Test.YtbbmhidnakghfaaDoorG11
namespace Go.Proofs.YtbbmhidnakghfaaDoor
open Go.RowKit Go.Sort

theorem up_upd (q : Nat → Int) (f : Nat) (x : Int) : ∀ i, updI q f x i = Lot.up q f x i := fun _ => rfl
set_option maxHeartbeats 16000000 in
set_option maxRecDepth 100000 in
theorem walk_any (wa : Option Addr) (wd : Nat) (oa : Option Addr) (od : Nat) (ka : Option Addr) (kd : Nat) (fW fO fK : Nat → Int) (g gb gp GO gor gw n : Nat) (w : World) (hw : IRow w wa n wd fW) (ho : IRow w oa n od fO) (hk : IRow w ka n kd fK) (hcode : ncode n n n fW fO fK = 0) (o : WOrd w g gb gp GO gor gw n) :
    ∀ (k e : Nat), e ≤ k → e ≤ n → ∀ (q : Nat → Int) (s : Int × (Nat → Int)) (c : Int) (W : World), WSt w W g gb gp GO gor gw n (.slice wa n wd) (.slice oa n od) (.slice ka n kd) q s → Lot.Tl (ndOf n fW fO fK) q e c → 0 ≤ c → (∀ i, i < e → q i = 0) →
    Calls Tryd.prog 18 #[.int .i64 (e : Int), .pointer (some ⟨g, 0, none⟩), .pointer (some ⟨gor, 0, none⟩), .pointer (some ⟨gb, 0, none⟩), .pointer (some ⟨gp, 0, none⟩), .pointer (some ⟨gw, 0, none⟩)] W (WPost w g gb gp GO gor gw n (.slice wa n wd) (.slice oa n od) (.slice ka n kd) q (Lot.wk (ndOf n fW fO fK) q e c s)) := by
  intro k
  induction k with
  | zero =>
    intro e he _ q s c W hS hT _ _
    obtain rfl : e = 0 := by omega
    rw [Lot.wk_zero]
    exact walk0_any wa wd oa od ka kd fW fO fK g gb gp GO gor gw n q s c w W hw ho hk hcode o hS hT
  | succ k ih =>
    intro e he hen q s c W hS hT hc0 hz
    rcases Nat.eq_zero_or_pos e with he0 | he0
    · subst he0
      rw [Lot.wk_zero]
      exact walk0_any wa wd oa od ka kd fW fO fK g gb gp GO gor gw n q s c w W hw ho hk hcode o hS hT
    obtain ⟨N, hN⟩ : ∃ N, ndOf n fW fO fK = N := ⟨_, rfl⟩
    have hNn : N.n = n := by rw [← hN]; rfl
    have hNW : N.W = fW := by rw [← hN]; rfl
    have hgood := (ncode_zero hcode).2.2
    rw [hN] at hgood hT ih ⊢
    obtain ⟨RR, hRR⟩ : ∃ R, Lot.wk N q e c s = R := ⟨_, rfl⟩
    have HRR := hide hRR
    rw [hRR]
    have HIH : Hid (∀ (d : Nat), d < e → ∀ (s' : Int × (Nat → Int)) (W' : World), WSt w W' g gb gp GO gor gw n (.slice wa n wd) (.slice oa n od) (.slice ka n kd) (Lot.up q (e - (d + 1)) (Lot.ws N e (d + 1))) s' → Calls Tryd.prog 18 #[.int .i64 ((e - (d + 1) : Nat) : Int), .pointer (some ⟨g, 0, none⟩), .pointer (some ⟨gor, 0, none⟩), .pointer (some ⟨gb, 0, none⟩), .pointer (some ⟨gp, 0, none⟩), .pointer (some ⟨gw, 0, none⟩)] W' (WPost w g gb gp GO gor gw n (.slice wa n wd) (.slice oa n od) (.slice ka n kd) (Lot.up q (e - (d + 1)) (Lot.ws N e (d + 1))) (Lot.wk N (Lot.up q (e - (d + 1)) (Lot.ws N e (d + 1))) (e - (d + 1)) (Lot.run N e (d + 1) + c) s'))) := by
      show ∀ (d : Nat), _
      intro d hd s' W' hS'
      have hn := hT.next hgood (f := e - (d + 1)) (by omega) (by omega) hz
      rw [show e - (e - (d + 1)) = d + 1 by omega] at hn
      have hr := Lot.run_bd hgood (show e ≤ N.n by omega) (show d + 1 ≤ e by omega) (by omega)
      refine ih (e - (d + 1)) (by omega) (by omega) _ s' _ W' hS' hn (by omega) (fun i hi => ?_)
      unfold Lot.up
      rw [if_neg (by omega)]
      exact hz i (by omega)
    have HG := hide hgood
    have HO := hide o
    have HZ := hide hz
    obtain ⟨bw, pw, hwa, hwl, hwc⟩ : ∃ b p, wa = some ⟨b, p, none⟩ ∧ b < w.heap.size ∧ ∀ j, j < n → w.cell? ⟨b, p + j, none⟩ = some (.int .i64 (fW j)) := by
      obtain ⟨_, _, h3⟩ := hw
      exact h3 (by omega)
    subst hwa
    have HWR : Hid (∀ W, Below w.heap.size w W → ∀ i, i < n → W.cell? ⟨bw, pw + i, none⟩ = some (.int .i64 (N.W i))) := by
      show ∀ W, _
      intro W hW i hi
      rw [hNW, hW.cell (p := ⟨bw, pw + i, none⟩) hwl]
      exact hwc i hi
    have h50 : n ≤ 50 := by have := hgood.few; omega
    have HNN := hide hNn
    have HC0 := hide hc0
    have q1 := hw.1
    have q2 := hw.2.1
    have HS0 := hide hS
    have e0 : ((e : Int) == 0) = false := by simp; omega
    have f0 : IntKind.i64.wrap ((e : Int) - 1) = (e : Int) - 1 := wrap_is (by omega) (by omega)
    clear hwl hwc hw ho hk hcode o ih hS hT hc0 hz hgood hN hNn hNW hRR
    go_enter Tryd.func18, Tryd.ntmps18
    go_wp2_with fail
    go_loopw [10, 9] (fun vi vs wr => ∃ (d : Nat) (ii sm : Int), vi = .int .i64 ii ∧ vs = .int .i64 sm ∧ d ≤ e ∧ ii = (e : Int) - 1 - (d : Int) ∧ sm = Lot.ws N e d ∧ WSt w wr g gb gp GO gor gw n (.slice (some ⟨bw, pw, none⟩) n wd) (.slice oa n od) (.slice ka n kd) q (Lot.fnd N q e c s d)) (fun vi _ _ => (intOf vi + 1).toNat)
    case atStart => exact ⟨0, _, _, rfl, rfl, Nat.zero_le _, by omega, rfl, unhide HS0⟩
    case round =>
      obtain ⟨d, ii, sm, rfl, rfl, hd, hii, hsm, hS⟩ := hrel
      have hNn := unhide HNN
      by_cases hlt : d < e
      · obtain ⟨fi, hfi⟩ : ∃ f, e - (d + 1) = f := ⟨_, rfl⟩
        have hif : ii = (fi : Int) := by omega
        subst hif
        have hfn : fi < n := by omega
        have kw := unhide HWR _ hS.bl fi hfn
        obtain ⟨c0, c1, c2⟩ := cells3 hS.box
        have c3 := (cell1 hS.orb).1
        have ko := hS.ord.cell hfn
        have kf := hS.ord.free fi
        have hgw := (unhide HG).w fi (by omega)
        have gs := Lot.ws_bd (unhide HG) (show e ≤ N.n by omega) d hd
        have gs1 := Lot.ws_bd (unhide HG) (show e ≤ N.n by omega) (d + 1) (by omega)
        have ews : Lot.ws N e (d + 1) = Lot.ws N e d + N.W fi := by rw [← hfi]; rfl
        have HC := unhide HIH d hlt
        have HFN := hide (Lot.fnd_next (unhide HG) (q := q) (s := s) (show e ≤ N.n by omega) hlt (unhide HC0))
        rw [hfi] at HC HFN
        obtain ⟨s1, hs1⟩ : ∃ x, Lot.ws N e (d + 1) = x := ⟨_, rfl⟩
        rw [hs1] at HC HFN ews gs1
        rw [← hsm] at gs ews
        obtain ⟨yw, hyw⟩ : ∃ x, N.W fi = x := ⟨_, rfl⟩
        have kw' : wr.cell? ⟨bw, pw + fi, none⟩ = some (.int .i64 (N.W fi)) := kw
        rw [hyw] at kw' hgw ews
        have HS1 : Hid (WSt w (wr.setCell ⟨GO, fi, none⟩ (.int .i64 s1)) g gb gp GO gor gw n (.slice (some ⟨bw, pw, none⟩) n wd) (.slice oa n od) (.slice ka n kd) (Lot.up q fi s1) (Lot.fnd N q e c s d)) := hS.setO (unhide HO) fi s1 (fun i _ => up_upd q fi s1 i)
        have g1 : IntKind.i64.wrap (sm + yw) = s1 := (wrap_is (by omega) (by omega)).trans ews.symm
        have g2 : (0 : Int) ≤ (fi : Int) := by omega
        have g3 : (fi : Int) < (n : Int) := by omega
        have g4 : IntKind.i64.wrap ((fi : Int) - 1) = (fi : Int) - 1 := wrap_is (by omega) (by omega)
        have HHC := hide HC
        have c4 := (cell1 (unhide HS1).orb).1
        have c5 := (cell1 (unhide HS1).wlk).1
        have HS1E := hide hs1
        have HFI := hide hfi
        have HZF : Hid (q fi = 0) := unhide HZ fi (by omega)
        clear hS kw hgw gs gs1 ews hs1 hyw hfi hii hNn HC hsm
        unfold wkF at c5
        go_wp2_with fail
        refine (unhide HHC _ _ (unhide HS1)).mono ?_
        rintro e_ w3 ⟨rfl, hS3⟩
        rw [unhide HFN] at hS3
        have d3 := (cell1 hS3.orb).1
        have ko3 := hS3.ord.cell hfn
        have kf3 := hS3.ord.free fi
        have HS4 : Hid (WSt w (w3.setCell ⟨GO, fi, none⟩ (.int .i64 0)) g gb gp GO gor gw n (.slice (some ⟨bw, pw, none⟩) n wd) (.slice oa n od) (.slice ka n kd) q (Lot.fnd N q e c s (d + 1))) := hS3.setO (unhide HO) fi 0 (fun i _ => by
          unfold updI Lot.up
          by_cases c : i = fi
          · rw [if_pos c, c, unhide HZF]
          · rw [if_neg c, if_neg c])
        clear hS3 c0 c1 c2 c3 c4 c5 ko kf HHC HS1 kw'
        go_wp2
        exact ⟨⟨d + 1, _, _, rfl, rfl, hlt, by have := unhide HFI; omega, (unhide HS1E).symm, unhide HS4⟩, by have := unhide HFI; first | (simp [intOf]; done) | (simp [intOf]; omega)⟩
      · obtain rfl : d = e := by omega
        have g2 : ¬ (0 : Int) ≤ ii := by omega
        have HFIN : Hid (WSt w wr g gb gp GO gor gw n (.slice (some ⟨bw, pw, none⟩) n wd) (.slice oa n od) (.slice ka n kd) q RR) := by
          show WSt _ _ _ _ _ _ _ _ _ _ _ _ _ _
          rw [← unhide HRR, ← Lot.fnd_end he0 (unhide HZ)]
          exact hS
        clear hS hii hsm
        go_wp2
        exact bodyPost_end (v := .tuple #[]) (by simp [results, Tryd.results18, go_sem]) rfl ⟨rfl, unhide HFIN⟩
end Go.Proofs.YtbbmhidnakghfaaDoor
