/- What the document's Put, Var and Text write behind any slice of bytes. Condition: the slices are at most 2^40 long. -/
import Derived.Test.YtpalhpkbdkodfaaProg
import Derived.Test.YtpalhpkbdkodfaaRoom
import Derived.Test.YtpalhpkbdkodfaaVar
import Derived.Outline
namespace Go.Proofs.Ytpalhpkbdkodfaa.bytes
open Go.RowKit Go.Proofs.Ytpalhpkbdkodfaa.kit Go.Proofs.Ytpalhpkbdkodfaa.nums
set_option linter.unusedVariables false

theorem rput_few (s : Value) (v k : Int) (w : World) (h : k < 1 ∨ 8 < k) :
    Calls Try.prog 42 #[s, .int .u64 v, .int .i64 k] w fun e w' => e = .returned (.tuple #[.slice none 0 0, .int .i64 1]) ∧ w = w' := by
  by_cases hk : k < 1
  · go_enter Try.func42, Try.ntmps42
    go_wp2_with fail
    go_ret2
    exact ⟨rfl, rfl⟩
  · have hk2 : 8 < k := by omega
    go_enter Try.func42, Try.ntmps42
    go_wp2_with fail
    go_ret2
    exact ⟨rfl, rfl⟩

/-- What Put ends in: the bytes and 0, or nothing and ErrRange. -/
def RetP (W : World) (n : Nat) (l : List Int) (v : Int) (k : Nat) (e : Ending) (w' : World) : Prop :=
  (v / 2 ^ (8 * k) = 0 ∧ RetS 5 W (n + k) (l ++ beB v k) e w') ∨ (v / 2 ^ (8 * k) ≠ 0 ∧ e = .returned (.tuple #[.slice none 0 0, .int .i64 5]) ∧ Below W.heap.size W w')

set_option maxHeartbeats 400000 in
theorem rput_any (A : Option Addr) (n c : Nat) (l : List Int) (v : Int) (k : Nat) (w : World) (hR : Rd w w.heap.size A n l) (hb : n ≤ 1099511627776) (h0 : 0 ≤ v) (h1 : v ≤ 18446744073709551615) (hk0 : 1 ≤ k) (hk1 : k ≤ 8) :
    Calls Try.prog 42 #[.slice A n c, .int .u64 v, .int .i64 k] w (RetP w n l v k) := by
  have hn := hR.len
  have HN := Lib.hid hn
  clear hn
  go_enter Try.func42, Try.ntmps42
  go_wp2_with (at_make; refine wpList_make_bytes _ rfl _ _ 32 rfl 5 Try.underlying32 info5 .i64 .i64 _ _ k k rfl rfl rfl rfl ?c1 ?c2 ?_)
  case c1 => omega
  case c2 => omega
  intro w1 HG HB HS
  go_wp2_with fail
  go_loopw [1, 9] (fun u i wr => ∃ (m j : Nat), m + j = k ∧ i = .int .i64 ((m : Int) - 1) ∧ u = .int .u64 (v / 2 ^ (8 * j)) ∧ Blk 5 wr w.heap.size (zeros m ++ u8s ((beB v k).drop m)) ∧ Below w.heap.size w wr) (fun _ i _ => (intOf i + 1).toNat)
  case atStart => exact ⟨k, 0, rfl, rfl, by simp, by rw [List.drop_of_length_le (by rw [beB_length]; exact Nat.le_refl _)]; simpa [u8s] using HG, HB⟩
  case round =>
    obtain ⟨m, j, hmj, rfl, rfl, HG', hB'⟩ := hrel
    have hsz := hB'.size
    have hlt := HG'.lt
    have hv0 : 0 ≤ v / 2 ^ (8 * j) := Int.ediv_nonneg h0 (Int.le_of_lt (Int.pow_pos (by decide)))
    have hv1 : v / 2 ^ (8 * j) ≤ 18446744073709551615 := Int.le_trans (Int.ediv_le_self _ h0) h1
    rcases m with _ | m
    · obtain rfl : j = k := by omega
      have HG2 : Blk 5 wr w.heap.size (u8s (beB v j)) := by simpa [zeros] using HG'
      have hR2 := (hR.on hB' hsz).alloc (Nat.le_refl _) (.cells #[] 5)
      clear HG' hR HG
      by_cases hu : 0 < v / 2 ^ (8 * j)
      · have HU := Lib.hid (show v / 2 ^ (8 * j) ≠ 0 by omega)
        generalize v / 2 ^ (8 * j) = u at hv0 hv1 hu ⊢
        go_wp2_with fail
        go_ret2
        exact .inr ⟨HU.out, rfl, hB'⟩
      · have HU := Lib.hid (show v / 2 ^ (8 * j) = 0 by omega)
        generalize v / 2 ^ (8 * j) = u at hv0 hv1 hu ⊢
        go_wp2_with (at_builtin; with_reducible refine wpList_append_rd rfl (.tmp 34) (.tmp 35) 32 rfl wr.heap.size 5 Try.underlying32 info5 _ 0 0 [] rfl rfl (Own.empty _ _ (Nat.le_refl _)) _ _ n _ _ rfl hR2 ?ha ?hbs ?_)
        case ha => omega
        intro A1 c1 w2 hO1 hB1 _
        have hB2 : Below wr.heap.size wr w2 := ((Below.refl _ _).alloc (Nat.le_refl _) _).trans hB1
        have hR3 := (HG2.below hB2 hlt).rd (n := j) (List.take_of_length_le (by rw [u8s_length, beB_length]; exact Nat.le_refl _)) (beB_length v j) (show w.heap.size < w2.heap.size by have := hB2.size; omega)
        have HN2 := HN.out
        go_wp2_with (at_builtin; with_reducible refine wpList_append_rd rfl (.tmp 36) (.tmp 37) 32 rfl wr.heap.size 5 Try.underlying32 info5 A1 n c1 l HN.out rfl hO1 _ _ j _ _ rfl hR3 ?hc hB2.size ?_)
        case hc => omega
        intro A3 c3 w3 hO3 hB3 _
        go_wp2_with fail
        go_ret2
        exact .inl ⟨HU.out, A3, c3, rfl, by rw [List.length_append, HN.out, beB_length], hO3.more hsz, hB'.trans ((hB2.trans hB3).mono hsz)⟩
    · have hcell : wr.cell? ⟨w.heap.size, m, none⟩ = some (.int .u8 0) := by rw [HG'.cell m, zeros_get]
      have hfr := HG'.frozen m
      have HD := Lib.hid (div_step v j)
      have HE := Lib.hid (beB_drop v k m j (by omega))
      have HS' := Lib.hid (HG'.set_ m (.int .u8 (v / 2 ^ (8 * j) % 256)))
      rw [show (((m + 1 : Nat) : Int) - 1) = (m : Int) by omega]
      have HK := Lib.hid hmj
      have hmk : m < k := by omega
      clear hmj
      generalize hu : v / 2 ^ (8 * j) = u at *
      clear hu
      go_wp2_with fail
      go_roundw
      case rel => exact ⟨m, j + 1, by have := HK.out; omega, rfl, by rw [← HD.out], by have := HS'.out; rw [zeros_set] at this; rw [HE.out]; exact this, hB'.setCell (by simp) _⟩
      case measure => simp [intOf]
end Go.Proofs.Ytpalhpkbdkodfaa.bytes
