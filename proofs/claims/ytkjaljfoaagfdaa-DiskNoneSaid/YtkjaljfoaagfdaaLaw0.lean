/- What the statements' helpers on lists of byte slices do: Place, Sum, Joined, Twins, AllKept. Conditions: lengths are at most 2^40. -/
import Derived.Test.YtkjaljfoaagfdaaProg
import Derived.Test.YtkjaljfoaagfdaaKitV
import Derived.Test.YtkjaljfoaagfdaaInfo
import Derived.Test.YtkjaljfoaagfdaaTwin
import Derived.Outline
import Derived.Deep.RegionWith
import Derived.Deep.RegionHeld3
namespace Go.Proofs.Ytkjaljfoaagfdaa.law0
open Go.RowKit Go.Proofs.Ytkjaljfoaagfdaa.kit Go.Proofs.Ytkjaljfoaagfdaa.nums Go.Proofs.Ytkjaljfoaagfdaa.bytes
set_option linter.unusedVariables false

theorem infoB : (Try.prog.info? 30).map (fun i => (i.zero, i.size, i.bytes)) = some (some (.slice none 0 0), 1, 24) := by kernel_rfl
/-- A number from 0 to n - 1. -/
def placeF (k n : Int) : Int := if n < 1 then 0 else k % n
theorem place_in (k n : Int) (h : 1 ≤ n) : 0 ≤ placeF k n ∧ placeF k n < n := by
  unfold placeF; rw [if_neg (by omega)]
  exact ⟨Int.emod_nonneg _ (by omega), Int.emod_lt_of_pos _ (by omega)⟩
theorem place_any (k n : Int) (w : World) (h0 : -9223372036854775808 ≤ k) (h1 : k ≤ 9223372036854775807) (hn : n ≤ 9223372036854775807) :
    Calls Try.prog 17 #[.int .i64 k, .int .i64 n] w fun e w' => e = .returned (.int .i64 (placeF k n)) ∧ w = w' := by
  by_cases h : n < 1
  · have HP := Lib.hid (show placeF k n = 0 from if_pos h)
    go_enter Try.func17, Try.ntmps17
    go_wp2_with fail
    go_ret
    exact ⟨by rw [HP.out]; rfl, rfl⟩
  · have hz : ¬ n = 0 := by omega
    have HP := Lib.hid (show placeF k n = k % n from if_neg h)
    have e1 := Int.emod_nonneg k hz
    have e2 := Int.emod_lt_of_pos k (show 0 < n by omega)
    have ht : k.tmod n = k % n ∨ k.tmod n = k % n - n ∧ k % n ≠ 0 := by
      rw [Int.tmod_eq_emod]
      split
      · left; simp
      · rename_i hd
        right
        rw [show ((n.natAbs : Nat) : Int) = n by omega]
        exact ⟨rfl, fun h => hd (.inr (Int.dvd_of_emod_eq_zero h))⟩
    have ht2 : (0 ≤ k.tmod n ∧ placeF k n = k.tmod n) ∨ (k.tmod n < 0 ∧ -n < k.tmod n ∧ placeF k n = k.tmod n + n) := by
      rw [HP.out]
      generalize k % n = r at *
      generalize k.tmod n = q at *
      omega
    clear ht e1 e2 HP
    generalize hq : k.tmod n = q at *
    rcases ht2 with ⟨h2, h3⟩ | ⟨h2, h4, h3⟩
    · have HP := Lib.hid h3
      clear h3
      go_enter Try.func17, Try.ntmps17
      go_wp2_with fail
      go_ret
      exact ⟨by rw [HP.out]; rfl, rfl⟩
    · have HP := Lib.hid h3
      clear h3
      go_enter Try.func17, Try.ntmps17
      go_wp2_with fail
      go_ret
      exact ⟨by rw [HP.out]; rfl, rfl⟩

/-- What Sum ends in: a number that is at most 'most' only where all lists together are just as many. -/
def SumR (L : List (List Int)) (most : Nat) (w : World) (e : Ending) (w' : World) : Prop := ∃ r : Nat, e = .returned (.int .i64 r) ∧ (r ≤ most → L.flatten.length = r) ∧ w = w'
/-- Each of the slices xs is a twin of its list, in a block from base on. -/
def TwinsOf (w : World) (base : Nat) (xs : List Value) (L : List (List Int)) : Prop :=
  ∀ (j : Nat) (x : Value) (l : List Int), xs[j]? = some x → L[j]? = some l → ∃ g, x = .slice (some ⟨g, 0, none⟩) l.length (l.length + 3) ∧ IsTwin w g l ∧ base ≤ g
theorem TwinsOf.below {w w' : World} {base : Nat} {xs : List Value} {L : List (List Int)} (h : TwinsOf w base xs L) (hb : Below w.heap.size w w') : TwinsOf w' base xs L := fun j x l hx hl => by
  obtain ⟨g, e, hT, hg⟩ := h j x l hx hl
  exact ⟨g, e, hT.below hb hT.lt, hg⟩
theorem twin_grown {w w' : World} {v : Value} {ys : List Value} {b2 g : Nat} {l : List Int} (hT : IsTwin w g l) (hO : OwnV 30 w b2 v ys) (hG : w.grownBy w' v.ownBlock) : IsTwin w' g l := by
  have hne : some g ≠ v.ownBlock := by
    intro he
    rcases hO.2 with ⟨hv, _⟩ | ⟨g2, cap, cur, hv, _, hh, _⟩
    · rw [hv] at he; simp [Value.ownBlock] at he
    · rw [hv] at he
      have e2 : g = g2 := by simpa [Value.ownBlock] using he
      subst e2
      have h1 : w.heap[g]? = some (.cells (u8s (l ++ [229, 229, 229])).toArray 5 (0, 0)) := hT
      rw [hh] at h1
      simp at h1
  exact (hG.block g hT.lt hne).trans hT
theorem TwinsOf.grown {w w' : World} {base : Nat} {xs : List Value} {L : List (List Int)} {v : Value} {ys : List Value} {b2 : Nat} (h : TwinsOf w base xs L) (hO : OwnV 30 w b2 v ys) (hG : w.grownBy w' v.ownBlock) : TwinsOf w' base xs L := fun j x l hx hl => by
  obtain ⟨g, e, hT, hg⟩ := h j x l hx hl
  exact ⟨g, e, twin_grown hT hO hG, hg⟩
theorem TwinsOf.snoc {w : World} {base : Nat} {xs : List Value} {L : List (List Int)} {l : List Int} {g j : Nat} (h : TwinsOf w base xs L) (hj : xs.length = j) (hL : L[j]? = some l) (hT : IsTwin w g l) (hg : base ≤ g) :
    TwinsOf w base (xs ++ [.slice (some ⟨g, 0, none⟩) l.length (l.length + 3)]) L := fun i x m hx hm => by
  by_cases hi : i < xs.length
  · rw [List.getElem?_append_left hi] at hx
    exact h i x m hx hm
  · have hi2 : i < (xs ++ [Value.slice (some ⟨g, 0, none⟩) l.length (l.length + 3)]).length := (List.getElem?_eq_some_iff.1 hx).1
    simp at hi2
    obtain rfl : i = j := by omega
    rw [List.getElem?_append_right (by omega), hj, Nat.sub_self] at hx
    simp at hx
    rw [hL] at hm
    obtain rfl := Option.some.inj hm
    exact ⟨g, hx.symm, hT, hg⟩

/-- What Twins ends in. -/
def RetTw (W : World) (L : List (List Int)) (e : Ending) (w' : World) : Prop :=
  ∃ A n c xs, e = .returned (.slice A n c) ∧ xs.length = n ∧ L.length = n ∧ OwnV 30 w' W.heap.size (.slice A n c) xs ∧ TwinsOf w' W.heap.size xs L ∧ Below W.heap.size W w'

/-- Each of the values xs is a slice that reads as its list. -/
def SlsOf (w : World) (B : Nat) (xs : List Value) (L : List (List Int)) : Prop := ∀ (j : Nat) (x : Value) (l : List Int), xs[j]? = some x → L[j]? = some l → Sl w B x l
theorem SlsOf.snoc {w : World} {B j : Nat} {xs : List Value} {L : List (List Int)} {x : Value} {l : List Int} (h : SlsOf w B xs L) (hj : xs.length = j) (hL : L.length = j) (hx : Sl w B x l) : SlsOf w B (xs ++ [x]) (L ++ [l]) := fun i y m hy hm => by
  by_cases hi : i < j
  · rw [List.getElem?_append_left (by omega)] at hy hm
    exact h i y m hy hm
  · have hi2 : i < (xs ++ [x]).length := (List.getElem?_eq_some_iff.1 hy).1
    simp at hi2
    obtain rfl : i = j := by omega
    rw [List.getElem?_append_right (by omega), hj, Nat.sub_self] at hy
    rw [List.getElem?_append_right (by omega), hL, Nat.sub_self] at hm
    simp at hy hm
    subst hy; subst hm
    exact hx
theorem SlsOf.one {w : World} {B : Nat} {x : Value} {l : List Int} (hx : Sl w B x l) : SlsOf w B [x] [l] := fun i y m hy hm => by
  match i with
  | 0 => simp at hy hm; subst hy; subst hm; exact hx
  | i + 1 => simp at hy

/-- What Cut ends in: pieces whose bytes, one behind the other, are those of l; at most k + 1 of them. -/
def RetCut (W : World) (k : Nat) (l : List Int) (e : Ending) (w' : World) : Prop :=
  ∃ A n c L, e = .returned (.slice A n c) ∧ n ≤ k + 1 ∧ n ≤ c ∧ RdS w' w'.heap.size A n L ∧ L.flatten = l ∧ Below W.heap.size W w'
theorem retCut_of {W w' : World} {k n : Nat} {l : List Int} {A : Option Addr} {c : Nat} {xs : List Value} {L : List (List Int)} (hO : OwnV 30 w' W.heap.size (.slice A n c) xs) (hx : xs.length = n) (hL : L.length = n) (hS : SlsOf W W.heap.size xs L) (hB : Below W.heap.size W w') (hf : L.flatten = l) (hn : n ≤ k + 1) :
    RetCut W k l (.returned (.slice A n c)) w' := by
  obtain ⟨X', c', hv, hc1, hc2, hV⟩ := hO.slice
  rw [hx] at hv hc1 hV
  simp only [Value.slice.injEq] at hv
  obtain ⟨rfl, -, rfl⟩ := hv
  exact ⟨_, n, _, L, rfl, hn, hc1, ⟨xs, hV, hL, fun j x l hx hl => ((hS j x l hx hl).below hB).more hB.size⟩, hf, hB⟩

end Go.Proofs.Ytkjaljfoaagfdaa.law0
