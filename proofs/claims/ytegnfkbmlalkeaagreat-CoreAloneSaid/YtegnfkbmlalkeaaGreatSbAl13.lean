/- A voter that elects and commits alone. It speaks of no program. -/
import Derived.Test.YtegnfkbmlalkeaaGreatSbCq13
namespace Go.Proofs.YtegnfkbmlalkeaaGreat.cr
open Go.Proofs.YtegnfkbmlalkeaaGreat.nums Go.Proofs.YtegnfkbmlalkeaaGreat.se Go.Proofs.YtegnfkbmlalkeaaGreat.cf Go.Proofs.YtegnfkbmlalkeaaGreat.lg
set_option linter.unusedVariables false
def aloneJ (k : Nat) (l : Nat) : JtL := ⟨⟨withF 0 (k : Int), 0, l, 1, 1⟩, zeroC, false⟩
theorem with0 {k : Nat} (h1 : 1 ≤ k) (h9 : k ≤ 9) : withF 0 (k : Int) = 2 ^ k := by unfold withF; rw [bitF_node h1 h9, Nat.zero_or]
theorem and_bit0 {a k : Nat} (h : a.testBit k = false) : 2 ^ k &&& a = 0 := by
 apply Nat.eq_of_testBit_eq
 intro i
 rw [Nat.testBit_and, Nat.testBit_two_pow, Nat.zero_testBit]
 by_cases hi : k = i
 · subst hi; simp [h]
 · simp [hi]
theorem and_bit1 {a k : Nat} (h : a.testBit k = true) : a &&& 2 ^ k = 2 ^ k := by
 apply Nat.eq_of_testBit_eq
 intro i
 rw [Nat.testBit_and, Nat.testBit_two_pow]
 by_cases hi : k = i
 · subst hi; simp [h]
 · simp [hi]
theorem cnt_pow : ∀ {k : Nat}, 1 ≤ k → k ≤ 9 → cntF (2 ^ k) = 1
 | 1, _, _ => by decide
 | 2, _, _ => by decide
 | 3, _, _ => by decide
 | 4, _, _ => by decide
 | 5, _, _ => by decide
 | 6, _, _ => by decide
 | 7, _, _ => by decide
 | 8, _, _ => by decide
 | 9, _, _ => by decide
theorem may_pow {k : Nat} (h1 : 1 ≤ k) (h9 : k ≤ 9) : mayF (2 ^ k) = true := by
 have := may_with (s := 0) (k : Int) may_zero
 rwa [with0 h1 h9] at this
section
variable {k l : Nat}
theorem alone_may (h1 : 1 ≤ k) (h9 : k ≤ 9) (hl : mayF l = true) (hb : l.testBit k = false) : mayJ (aloneJ k l) = true := by
 unfold mayJ aloneJ mayC
 have hv : votF ⟨withF 0 (k : Int), 0, l, 1, 1⟩ = 2 ^ k := by unfold votF; dsimp only; rw [with0 h1 h9, Nat.or_zero]
 have hm : memF ⟨withF 0 (k : Int), 0, l, 1, 1⟩ = 2 ^ k ||| l := by unfold memF; dsimp only; rw [with0 h1 h9, Nat.or_zero]
 have ha : apartB ⟨withF 0 (k : Int), 0, l, 1, 1⟩ = true := by
   unfold apartB
   rw [hv]
   dsimp only
   rw [Nat.and_zero, and_bit0 hb]; rfl
 have hq : quoB ⟨withF 0 (k : Int), 0, l, 1, 1⟩ = true := by
   unfold quoB
   rw [hv, cnt_pow h1 h9]; rfl
 dsimp only
 rw [hm, ha, hq, may_or, may_pow h1 h9, hl, with0 h1 h9]
 have : (2 : Nat) ^ k ≠ 0 := Nat.pos_iff_ne_zero.1 (Nat.two_pow_pos k)
 simp
theorem alone_el (h1 : 1 ≤ k) (h9 : k ≤ 9) {s : Nat} (hs : s.testBit k = true) : elJ (aloneJ k l) s = true := by
 unfold elJ bothJ elC aloneJ
 have hv : votF ⟨withF 0 (k : Int), 0, l, 1, 1⟩ = 2 ^ k := by unfold votF; dsimp only; rw [with0 h1 h9, Nat.or_zero]
 dsimp only
 rw [hv, and_bit1 hs, cnt_pow h1 h9]; rfl
theorem alone_co (h1 : 1 ≤ k) (h9 : k ≤ 9) {s : Nat} (hs : s.testBit k = true) : coJ (aloneJ k l) s = true := by
 unfold coJ bothJ coC aloneJ
 have hv : votF ⟨withF 0 (k : Int), 0, l, 1, 1⟩ = 2 ^ k := by unfold votF; dsimp only; rw [with0 h1 h9, Nat.or_zero]
 dsimp only
 rw [hv, with0 h1 h9, and_bit1 hs, cnt_pow h1 h9]
 have : (2 : Nat) ^ k ≠ 0 := Nat.pos_iff_ne_zero.1 (Nat.two_pow_pos k)
 simp
theorem alone_led (h1 : 1 ≤ k) (h9 : k ≤ 9) : ledF (aloneJ k l) (k : Int) = true := by
 unfold ledF unF aloneJ
 dsimp only
 rw [hasF_node h1 h9]
 simp [with0 h1 h9]
theorem list_bit (i : Nat) (hi : 1 ≤ i) (hl : l.testBit i = false) : ∀ k, (listTo (2 ^ i ||| l) k).filter (fun n => !(n == (i : Int))) = listTo l k
 | 0 => rfl
 | k + 1 => by
   have ih := list_bit i hi hl k
   simp only [listTo]
   rw [Nat.testBit_or, Nat.testBit_two_pow]
   by_cases e : i = k + 1
   · have hb : (((k + 1 : Nat) : Int) == (i : Int)) = true := by rw [← e]; exact beq_self_eq_true _
     rw [if_pos (by simp [e]), List.filter_append, ih, ← e, hl]
     simp
   · have hb : (((k + 1 : Nat) : Int) == (i : Int)) = false := by
       apply beq_eq_false_iff_ne.2
       omega
     rw [show (decide (i = k + 1)) = false by simp [e], Bool.false_or]
     split
     · rw [List.filter_append, ih]
       congr 1
       simp only [List.filter_cons, hb, List.filter_nil]
       rfl
     · exact ih
theorem alone_mem (h1 : 1 ≤ k) (h9 : k ≤ 9) (hb : l.testBit k = false) : ((listF (unF (aloneJ k l) memF)).filter (fun n => !(n == (k : Int)))).length = cntF l := by
 have hm : unF (aloneJ k l) memF = 2 ^ k ||| l := by
   unfold unF aloneJ memF
   dsimp only
   rw [with0 h1 h9, Nat.or_zero]; rfl
 rw [hm]
 unfold listF
 rw [list_bit k h1 hb 9]
 exact cntF_list l
end
theorem has_self {c : CoL} {i : Int} {k : Nat} (h1 : 1 ≤ k) (h9 : k ≤ 9) (hm : i ≤ c.mt k) : (hasC c i).testBit k = true := by
 have key : ∀ m, m ≤ 9 → k ≤ m → (hasTo c i m).testBit k = true := by
   intro m
   induction m with
   | zero => intro _ h; omega
   | succ m ih =>
     intro hm9 hk
     unfold hasTo
     by_cases e : k = m + 1
     · have : i ≤ mtF c ((m + 1 : Nat) : Int) := by unfold mtF; rw [Int.toNat_natCast, ← e]; exact hm
       rw [if_pos this]
       unfold withF
       rw [Nat.testBit_or, ← e, bitF_node h1 h9]
       simp
     · have ih2 := ih (by omega) (by omega)
       split
       · unfold withF
         rw [Nat.testBit_or, ih2]; rfl
       · exact ih2
 exact key 9 (Nat.le_refl _) h9
theorem sole_cou {c : CoL} {k l K : Nat} (h1 : 1 ≤ k) (h9 : k ≤ 9) (hf : Fr c (k : Int) (aloneJ k l) K) (hlen : c.cm = (c.lg.es.length : Int)) (x : EnL) (hx : x.k ≠ 2) :
   couC (pushC c x) = cntC (pushC c x) ∧ (cntC (pushC c x)).cm = c.cm + 1 := by
 have hp := hf.push x hx
 have hla := hf.last
 have hl1 : (pushC c x).lg.es.length = c.lg.es.length + 1 := by show (c.lg.es ++ [_]).length = _; rw [List.length_append]; rfl
 have hla2 := hp.last
 have hpc : (pushC c x).cm = c.cm := rfl
 have hk : c.id.toNat = k := by have := hf.id; omega
 have hP : cmtP (pushC c x) (c.cm + 1) = true := by
   unfold cmtP
   have ht : (termF (pushC c x).lg (c.cm + 1)).1 = c.tm := by
     rw [termF_in (k := c.lg.es.length) (x := { x with t := c.tm }) (by show c.cm + 1 = c.lg.b + 1 + _; rw [hf.b]; omega) (by show (c.lg.es ++ [_])[_]? = _; rw [List.getElem?_append_right (Nat.le_refl _), Nat.sub_self]; rfl)]
   rw [ht, hp.conf]
   have hh : (hasC (pushC c x) (c.cm + 1)).testBit k = true := has_self h1 h9 (by
     show c.cm + 1 ≤ upd c.mt c.id.toNat (lastF c.lg + 1) k
     unfold upd
     rw [hk, if_pos rfl]
     omega)
   rw [alone_co h1 h9 hh]
   show (decide (c.tm = (pushC c x).tm) && true) = true
   rw [decide_eq_true (show c.tm = (pushC c x).tm from rfl)]; rfl
 have hcm : (cntC (pushC c x)).cm = c.cm + 1 := by
   show seekF (cmtP (pushC c x)) (pushC c x).cm (lastF (pushC c x).lg - (pushC c x).cm).toNat = _
   have e : (lastF (pushC c x).lg - (pushC c x).cm).toNat = 1 := by rw [hla2, hl1, hpc]; omega
   rw [e, hpc]
   show (if cmtP (pushC c x) (c.cm + ((0 + 1 : Nat) : Int)) = true then _ else _) = _
   rw [show c.cm + ((0 + 1 : Nat) : Int) = c.cm + 1 from by omega, if_pos hP]
 refine ⟨?_, hcm⟩
 rw [hp.cou rfl]
 unfold endC
 have hc2 := hp.count
 rw [hc2.at_, hcm, if_pos (by have := hf.cm; omega), hc2.conf, hc2.id, alone_led h1 h9, if_pos rfl]
structure Sole (c : CoL) (k l m : Nat) : Prop where
 fr : Fr c (k : Int) (aloneJ k l) (100 + m)
 ro : c.ro = 2
 tm : c.tm = 1
 len : c.lg.es.length = m + 1
 cm : c.cm = (m : Int) + 1
section
variable {c : CoL} {k l m : Nat}
theorem alone_wait (i : Nat) (h : (i : Int) + 1 < patF (k : Int)) : tickF { newC (k : Int) (aloneJ k l) with wa := (i : Int) } = ({ newC (k : Int) (aloneJ k l) with wa := ((i + 1 : Nat) : Int) }, []) := by
 unfold tickF
 dsimp only
 rw [if_neg (by show ¬ (0 : Int) = 2; omega)]
 rw [show decide (patF (newC (k : Int) (aloneJ k l)).id ≤ (i : Int) + 1) = false from decide_eq_false (by show ¬ patF (k : Int) ≤ _; omega), Bool.and_false, Bool.false_and]
 rfl
theorem alone_lead (h1 : 1 ≤ k) (h9 : k ≤ 9) (hb : l.testBit k = false) (i : Nat) (h : (i : Int) + 1 = patF (k : Int)) : Sole (tickF { newC (k : Int) (aloneJ k l) with wa := (i : Int) }).1 k l 0 := by
 have hi9 : i ≤ 60 := by unfold patF at h; omega
 have hF0 : Fr { newC (k : Int) (aloneJ k l) with wa := (i : Int) + 1 } (k : Int) (aloneJ k l) (i + 1) := by
   have := (Fr.new (id := (k : Int)) (j := aloneJ k l) (by omega)).more (m := i + 1) (Nat.zero_le _)
   exact ⟨this.id, this.b, this.t, this.j, this.len, this.kd, this.cm, this.ro, this.tm, this.vo, this.le, ⟨by show (0 : Int) ≤ (i : Int) + 1; omega, by show (i : Int) + 1 ≤ ((i + 1 : Nat) : Int); omega⟩, this.sf, this.nx, this.mt, this.vs, this.he⟩
 have hS := hF0.stand (by omega) (by show (0 : Int) + 1 ≤ ((i + 1 : Nat) : Int); omega)
 have hL := hS.lead (by omega)
 have hc := sole_cou (l := l) h1 h9 hL rfl zE (by show (0 : Int) ≠ 2; omega)
 have hT : (tickF { newC (k : Int) (aloneJ k l) with wa := (i : Int) }).1 = couC (pushC (ldC (standC { newC (k : Int) (aloneJ k l) with wa := (i : Int) + 1 })) zE) := by
   unfold tickF
   dsimp only
   rw [if_neg (by show ¬ (0 : Int) = 2; omega)]
   have e1 : ledF (conC { newC (k : Int) (aloneJ k l) with wa := (i : Int) + 1 }) (newC (k : Int) (aloneJ k l)).id = true := by rw [hF0.conf]; exact alone_led h1 h9
   rw [e1, show decide (patF (newC (k : Int) (aloneJ k l)).id ≤ (i : Int) + 1) = true from decide_eq_true (by show patF (k : Int) ≤ _; omega), show decide ((newC (k : Int) (aloneJ k l)).tm < 1099511627776) = true from rfl, Bool.and_true, Bool.and_true, if_pos rfl, hS.conf, alone_el h1 h9 (s := (standC { newC (k : Int) (aloneJ k l) with wa := (i : Int) + 1 }).vs) (by show (withF 0 (k : Int)).testBit k = true; rw [with0 h1 h9]; simp), if_pos rfl]
   rfl
 rw [hT]
 have hfr := (hL.push zE (by show (0 : Int) ≠ 2; omega)).coun rfl
 refine ⟨hfr.more (by omega), ?_, ?_, ?_, ?_⟩
 · show (couC (pushC _ zE)).ro = 2; rw [hc.1]; rfl
 · show (couC (pushC _ zE)).tm = 1; rw [hc.1]; rfl
 · show (couC (pushC _ zE)).lg.es.length = 1; rw [hc.1]; rfl
 · show (couC (pushC _ zE)).cm = ((0 : Nat) : Int) + 1; rw [hc.1, hc.2]; rfl
theorem sole_prop (h1 : 1 ≤ k) (h9 : k ≤ 9) (hb : l.testBit k = false) (hm : m ≤ 60) (hs : Sole c k l m) (d : ByteArray) :
   ∃ c2 ms, propF c { zE with k := 1, d := d } = (c2, ms, (m : Int) + 2, 0) ∧ Sole c2 k l (m + 1) ∧ ms.length = cntF l ∧ atF c2.lg ((m : Int) + 2) = ({ zE with t := 1, k := 1, d := d }, true) := by
 have hcm : c.cm = (c.lg.es.length : Int) := by rw [hs.cm, hs.len]; omega
 have hE : propE c { zE with k := 1, d := d } = 0 := by
   unfold propE
   dsimp only
   rw [if_neg (by rw [hs.ro]; decide), if_neg (by decide), if_neg (by rw [hs.len]; omega), if_neg (by decide)]
 have hX : propX c { zE with k := 1, d := d } = { zE with k := 1, d := d } := by
   unfold propX
   dsimp only
   rw [if_neg (by decide)]
 have hc := sole_cou h1 h9 hs.fr hcm { zE with k := 1, d := d } (by show (1 : Int) ≠ 2; decide)
 have hp := hs.fr.push { zE with k := 1, d := d } (by show (1 : Int) ≠ 2; decide)
 have hfr := hp.count
 have hro : (cntC (pushC c { zE with k := 1, d := d })).ro = 2 := hs.ro
 have hla := hp.last
 have hlen : (pushC c { zE with k := 1, d := d }).lg.es.length = m + 2 := by show (c.lg.es ++ [_]).length = _; rw [List.length_append, hs.len]; rfl
 refine ⟨cntC (pushC c { zE with k := 1, d := d }), allF (cntC (pushC c { zE with k := 1, d := d })), ?_, ⟨hfr.more (by omega), hro, hs.tm, hlen, ?_⟩, ?_, ?_⟩
 · unfold propF
   rw [if_pos hE, hX]
   dsimp only
   rw [hc.1, if_pos hro, hla, hlen]
   rfl
 · rw [hc.2, hs.cm]; omega
 · unfold allF
   rw [List.length_map, hfr.conf, hfr.id]
   exact alone_mem h1 h9 hb
 · refine atF_in (k := m + 1) (by show (m : Int) + 2 = c.lg.b + 1 + _; rw [hs.fr.b]; omega) ?_
   show (c.lg.es ++ [_])[m + 1]? = _
   rw [List.getElem?_append_right (by rw [hs.len]; omega), hs.len, Nat.sub_self, hs.tm]; rfl
end
end Go.Proofs.YtegnfkbmlalkeaaGreat.cr
