/- Rows of joints in memory: what a literal lays, append of two, what an index reads. Conditions: those that each theorem names. -/
import Derived.Test.YtdpfpcdoocampaaKitCf
namespace Go.Proofs.Ytdpfpcdoocampaa.kit
open Go Go.RowKit Go.Proofs.Ytdpfpcdoocampaa.nums Go.Proofs.Ytdpfpcdoocampaa.cf
set_option linter.unusedVariables false

theorem infoJ : (Try.prog.info? 27).map (fun i => (i.zero, i.size, i.bytes)) = some (some (.agg #[.int .u16 0, .int .u16 0, .int .u16 0, .int .i64 0, .int .i64 0, .int .u16 0, .int .u16 0, .int .u16 0, .int .i64 0, .int .i64 0, .bool false]), 11, 56) := by kernel_rfl
theorem jt_len (x : JtL) : (jtC x).length = 11 := rfl
theorem jt_one (x : JtL) : ∀ u ∈ jtC x, u.oneCell' = true := by
  intro u hu
  simp only [jtC, List.mem_cons, List.not_mem_nil, or_false] at hu
  rcases hu with rfl | rfl | rfl | rfl | rfl | rfl | rfl | rfl | rfl | rfl | rfl <;> rfl
/-- An own row of joints. -/
def OwnJs (w : World) (base : Nat) (v : Value) (js : List JtL) : Prop := w.ownsRow base 27 11 v js.length (js.flatMap jtC)
theorem OwnJs.one {w : World} {base g : Nat} {j : JtL} (hg : Blk 27 w g (jtC j)) (hb : base ≤ g) : OwnJs w base (.slice (some ⟨g, 0, none⟩) 1 1) [j] :=
  ⟨rfl, .inr ⟨g, 1, (jtC j).toArray, rfl, hb, hg, Nat.le_refl _, by unfold maxLen; omega, rfl, rfl⟩⟩
theorem OwnJs.below {w w' : World} {base : Nat} {v : Value} {js : List JtL} (h : OwnJs w base v js) (hb : Below w.heap.size w w') : OwnJs w' base v js := by
  refine ⟨h.1, ?_⟩
  rcases h.2 with hn | ⟨g, cap, cur, rfl, hbg, hg, r⟩
  · exact .inl hn
  · exact .inr ⟨g, cap, cur, rfl, hbg, (hb.block g (lt_of_block hg)).trans hg, r⟩
theorem OwnJs.at_ {w : World} {base n c : Nat} {A : Option Addr} {js : List JtL} (h : OwnJs w base (.slice A n c) js) (hn : 0 < js.length) : ∃ b, A = some ⟨b, 0, none⟩ ∧ b < w.heap.size ∧ n = js.length ∧ ∀ (i : Nat) (x : JtL), js[i]? = some x → At w b (i * 11) (jtC x) := by
  rcases h.2 with ⟨hv, h0⟩ | ⟨g, cap, cur, he, hbg, hg, h1, h2, h3, h4⟩
  · omega
  · simp only [Value.slice.injEq] at he
    obtain ⟨rfl, rfl, rfl⟩ := he
    refine ⟨g, rfl, lt_of_block hg, rfl, fun i x hx q u hu => ?_⟩
    have hq : q < 11 := (List.getElem?_eq_some_iff.1 hu).1
    have hi : i < js.length := (List.getElem?_eq_some_iff.1 hx).1
    have hget := flat_get jtC 11 jt_len js i q x hx hq
    rw [← h4, List.getElem?_take, if_pos (by omega)] at hget
    rw [cell_of_row w g _ _ _ (0, 0) hg, ← Array.getElem?_toList, hget]
    exact hu
/-- 'append(l, x, y)': two joints more. -/
theorem append_two {w : World} {base q : Nat} {A : Option Addr} {c : Nat} {j x y : JtL} (ty : TypeId) (h : OwnJs w base (.slice A 1 c) [j]) (hq : Blk 27 w q (jtC x ++ jtC y)) (hb : base ≤ w.heap.size) :
    ∃ v w', (Builtin.append_ #[41, 41] ty #[.slice A 1 c, .slice (some ⟨q, 0, none⟩) 2 2]).run Try.prog w = .ok v w' ∧ ∃ A' c', v = .slice A' 3 c' ∧ OwnJs w' base (.slice A' 3 c') [j, x, y] ∧ Below base w w' := by
  obtain ⟨A', c', w', hr, h1, h2, _⟩ := run_append_k (P := Try.prog) w base 41 ty 27 _ 11 56 Try.underlying41 infoJ rfl (by omega) A 1 c (jtC j) h w.heap.size (some ⟨q, 0, none⟩) 2 2 (jtC x ++ jtC y) ⟨rfl, fun _ => ⟨q, 0, rfl, hq.lt, row_at hq⟩⟩ (fun u hu => by
    rcases List.mem_append.1 hu with hu | hu
    · exact jt_one x u hu
    · exact jt_one y u hu) (by omega) (by unfold maxLen; omega) hb
  exact ⟨_, w', hr, A', c', rfl, h1, h2⟩
/-- Whatever elects in one joint of the row meets what commits, or elects, in it and in those next to it. -/
def MeetL (L : List JtL) (a b : Nat) : Prop := ∀ (i k : Nat) (x y : JtL), L[i]? = some x → L[k]? = some y → i ≤ k + 1 → k ≤ i + 1 → elJ x a = true → (coJ y b = true ∨ elJ y b = true) → a &&& b ≠ 0
theorem ne_meet {a b : Nat} (h : meetF a b ≠ 0) : a &&& b ≠ 0 := fun h0 => h (by unfold meetF; rw [h0]; rfl)
theorem meetL_one {j : JtL} {a b : Nat} (h : mayJ j = true) : MeetL [j] a b := by
  intro i k x y hx hy _ _ h1 h2
  have hi : i = 0 := by
    rcases i with _ | i
    · rfl
    · simp at hx
  have hk : k = 0 := by
    rcases k with _ | k
    · rfl
    · simp at hy
  subst hi hk
  obtain rfl := Option.some.inj hx
  obtain rfl := Option.some.inj hy
  exact ne_meet (joint_meets h (.inl rfl) h1 h2)
theorem meetL_three {j : JtL} {to : CfL} {a b : Nat} (h : mayJ j = true) (he : changeE j to = 0) : MeetL [j, changeJ j to, finalJ (changeJ j to)] a b := by
  obtain ⟨m1, m2⟩ := change_mayJ (mayJ_a h) he
  obtain ⟨_, _, _, e⟩ := change_fine he
  rw [e] at m1 m2 ⊢
  have ef : finalJ ⟨j.a, to, true⟩ = ⟨to, zeroC, false⟩ := rfl
  rw [ef] at m2 ⊢
  intro i k x y hx hy hik hki h1 h2
  rcases i with _ | _ | _ | i <;> rcases k with _ | _ | _ | k
  all_goals first | omega | (simp at hx; done) | (simp at hy; done) | skip
  all_goals (simp at hx hy; subst hx hy)
  · refine ne_meet (joint_meets h ?_ h1 h2)
    exact (.inl rfl)
  · refine ne_meet (joint_meets h ?_ h1 h2)
    exact (.inl rfl)
  · refine ne_meet (joint_meets m1 ?_ h1 h2)
    exact (.inl rfl)
  · refine ne_meet (joint_meets m1 ?_ h1 h2)
    exact (.inl rfl)
  · refine ne_meet (joint_meets m1 ?_ h1 h2)
    exact (.inr (.inl ⟨rfl, rfl⟩))
  · refine ne_meet (joint_meets m2 ?_ h1 h2)
    exact (.inr (.inr ⟨rfl, rfl⟩))
  · refine ne_meet (joint_meets m2 ?_ h1 h2)
    exact (.inl rfl)
end Go.Proofs.Ytdpfpcdoocampaa.kit
