/- A number's text: the walk. -/
import Derived.Test.YtfnbjenneodcdaaA9
import Derived.Laws.Concat
namespace Go.Proofs.Ytfnbjenneodcdaa
open Go.RowKit Go.Sort Go.Shelf Go.Dd

theorem part_fin {w w2 : World} (hb : Below w.heap.size w w2) (N : Int) (zs : Array Value) (c : Nat) :
    PartAt w (((w2.alloc (.cells #[.int .u64 N] 60)).alloc (.cells (#[.int .u64 N] ++ zs) 60)).drew) N (.slice (some ⟨w2.heap.size + 1, 0, none⟩) 1 c) := by
  refine ⟨⟨_, _, rfl, ?_⟩, below_step (below_step hb (alloc_below _ _)) ((alloc_below _ _).drew)⟩
  rw [World.cell?_drew]
  have : (w2.alloc (.cells #[.int .u64 N] 60)).heap.size = w2.heap.size + 1 := by simp
  rw [← this, World.cell?_alloc_new]
  exact (Array.getElem?_append_left (Nat.lt_succ_self 0 : 0 < (#[Value.int .u64 N] : Array Value).size)).trans rfl

theorem row_put {wr : World} {g cap k : Nat} {N : Int} {d' : Array Int} (hh : Head wr g 1 (fun _ => N)) (hs : d'.size = 1) (hc : 1 ≤ cap) (hm : cap ≤ 9223372036854775807) : RowIs ((putRow enc wr g 0 d').drewN k) (some ⟨g, 0, none⟩) 1 cap (fun j => d'[j]!) := by
  have hlt : g < wr.heap.size := by obtain ⟨cur, h, _⟩ := hh; exact (Array.getElem?_eq_some_iff.1 h).1
  refine ⟨hc, hm, fun _ => ⟨g, 0, rfl, by simpa [putRow, mapBlock] using hlt, fun j hj => ?_⟩⟩
  have := cell?_putRow enc wr g 0 #[N] d' (head_holds hh) (by rw [hs]; rfl) j (by omega)
  exact this

theorem dec_small (u : Nat) (h : u < 18446744073709551616) : (Lib.decDigits u).length ≤ 20 := by
  rw [Lib.decDigits_length]
  by_cases h1 : 1 ≤ u
  · have := Lib.numDigits_eq u h1 h
    split at this <;> omega
  · have : u = 0 := by omega
    subst this
    rw [← Lib.decDigits_length]
    unfold Lib.decDigits
    decide

end Go.Proofs.Ytfnbjenneodcdaa
/- A fraction's text. -/
namespace Go.Proofs.Ytfnbjenneodcdaa
open Go.RowKit Go.Sort Go.Shelf Go.Dd

/-- What a fraction's text is. -/
def upperText (q : Rat) : List UInt8 := (if q.num < 0 then [45] else []) ++ Lib.decDigits q.num.natAbs
def qtext (q : Rat) : List UInt8 := upperText q ++ (if q.den = 1 then [] else 47 :: Lib.decDigits q.den)

theorem bytes_of {t : ByteArray} {l : List UInt8} (h : t.data.toList = l) : t = ⟨l.toArray⟩ := by
  subst h
  cases t
  simp

end Go.Proofs.Ytfnbjenneodcdaa
