/- A region that draws its order, walked operation by operation for all orders at once: each operation has a word on its value that lasts while the world changes by L. It speaks of no program. -/
import Derived.Deep.RegionHeld3
import Derived.Below
import Derived.WalkKit
namespace Go.Proofs.Ytpalhpkbdkodfaa.flowl
open Go Go.RowKit
set_option linter.unusedVariables false
section
variable {L : World → World → Prop} {P : Program} {ops : Array Oper} {Q : Exit → Act → World → Prop} {md : Region.Mode} {S : World → Prop}

def dstOf (ops : Array Oper) (i : Nat) : Option Tmp := (ops[i]?).bind (·.dst)
/-- All values of 'mid' in their slots. -/
def putAll (ops : Array Oper) (vs : Nat → Value) : List Nat → Act → Act
  | [], a => a
  | i :: r, a => putAll ops vs r (a.put (dstOf ops i) (vs i))
def upd (vs : Nat → Value) (i : Nat) (v : Value) : Nat → Value := fun j => if j = i then v else vs j
/-- No two operations of the list write one slot. -/
def apartB (ops : Array Oper) : List Nat → Bool
  | [] => true
  | i :: r => r.all (fun j => j != i && (dstOf ops i == none || dstOf ops j != dstOf ops i)) && apartB ops r

theorem put_put (a : Act) (d : Option Tmp) (u v : Value) : (a.put d u).put d v = a.put d v := by
  cases d with
  | none => rfl
  | some d => simp [Act.put]
theorem putAll_put (vs : Nat → Value) (d : Option Tmp) (v : Value) : ∀ (r : List Nat) (a : Act), (∀ j ∈ r, d = none ∨ dstOf ops j ≠ d) → (putAll ops vs r a).put d v = putAll ops vs r (a.put d v) := by
  intro r
  induction r with
  | nil => intro a _; rfl
  | cons i r ih =>
    intro a h
    show (putAll ops vs r (a.put (dstOf ops i) (vs i))).put d v = putAll ops vs r ((a.put d v).put (dstOf ops i) (vs i))
    rw [ih _ (fun j hj => h j (List.mem_cons_of_mem _ hj))]
    congr 1
    rcases h i (by simp) with h0 | h0
    · subst h0; rfl
    · exact Act.put_comm a _ _ (fun x hx hy => h0 (by rw [hx, hy]))
theorem putAll_same {vs us : Nat → Value} : ∀ (r : List Nat) (a : Act), (∀ j ∈ r, vs j = us j) → putAll ops vs r a = putAll ops us r a := by
  intro r
  induction r with
  | nil => intro a _; rfl
  | cons i r ih =>
    intro a h
    show putAll ops vs r (a.put (dstOf ops i) (vs i)) = putAll ops us r (a.put (dstOf ops i) (us i))
    rw [h i (by simp), ih _ (fun j hj => h j (List.mem_cons_of_mem _ hj))]
theorem putAll_upd (vs : Nat → Value) (i : Nat) (v : Value) : ∀ (r : List Nat) (a : Act), apartB ops r = true → i ∈ r → (putAll ops vs r a).put (dstOf ops i) v = putAll ops (upd vs i v) r a := by
  intro r
  induction r with
  | nil => intro a _ h; cases h
  | cons j r ih =>
    intro a hap hi
    simp only [apartB, Bool.and_eq_true, List.all_eq_true, bne_iff_ne, Bool.or_eq_true, beq_iff_eq] at hap
    obtain ⟨h1, h2⟩ := hap
    show (putAll ops vs r (a.put (dstOf ops j) (vs j))).put (dstOf ops i) v = putAll ops (upd vs i v) r (a.put (dstOf ops j) (upd vs i v j))
    by_cases hij : i = j
    · subst hij
      rw [putAll_put vs (dstOf ops i) v r _ (fun k hk => (h1 k hk).2), put_put, show upd vs i v i = v from if_pos rfl]
      exact putAll_same r _ (fun k hk => (if_neg (h1 k hk).1).symm)
    · have hir : i ∈ r := by rcases List.mem_cons.1 hi with h | h; exact absurd h hij; exact h
      rw [ih _ h2 hir, show upd vs i v j = vs j from if_neg (fun h => hij h.symm)]

/-- How many of 'mid' are still to come. -/
def left (listed : Array Bool) (mid : List Nat) : Nat := (mid.filter fun i => !listed.getD i true).length
theorem left_set {listed : Array Bool} {mid : List Nat} {i : Nat} (hi : i ∈ mid) (hu : listed.getD i true = false) : left (listed.setIfInBounds i true) mid < left listed mid := by
  have hmem : i ∈ mid.filter (fun i => !listed.getD i true) := by rw [List.mem_filter]; exact ⟨hi, by simp [hu]⟩
  have hsub : mid.filter (fun j => !(listed.setIfInBounds i true).getD j true) = (mid.filter (fun j => !listed.getD j true)).filter (fun j => j != i) := by
    rw [List.filter_filter]
    apply List.filter_congr
    intro j _
    by_cases hji : j = i
    · subst hji
      rcases Nat.lt_or_ge j listed.size with h | h
      · simp [h]
      · simp [Array.getElem?_eq_none h] at hu
    · rw [getD_set_ne true (fun h => hji h.symm)]; simp [hji]
  unfold left
  rw [hsub]
  refine Nat.lt_of_le_of_ne (List.length_filter_le _ _) (fun h => ?_)
  have := List.length_filter_eq_length_iff.1 h i hmem
  simp at this

theorem wpAnyH_flow_go (L : World → World → Prop) (I : World → Prop) (hIS : ∀ w, I w → S w) (a : Act) (mid : List Nat) (dp : Nat → List Nat) (Pv : Nat → Value → World → Prop) (hap : apartB ops mid = true)
    (hin : ∀ i ∈ mid, i < ops.size) (hac : ∀ (i : Nat) (o : Oper), ops[i]? = some o → ∀ e ∈ o.after, e.on < i)
    (hdp : ∀ i ∈ mid, ∀ d ∈ dp i, d ∈ mid ∧ ∃ (o : Oper) (e : Edge), ops[i]? = some o ∧ e ∈ o.after ∧ Region.binds md e = true ∧ e.on = d)
    (hst : ∀ i v w w', Pv i v w → L w w' → Pv i v w')
    (hstep : ∀ i ∈ mid, ∀ (vs : Nat → Value) (w : World), I w → (∀ d ∈ dp i, Pv d (vs d) w) →
      wpOp P ops Q i (fun a' w' => ∃ v, a' = (putAll ops vs mid a).put (dstOf ops i) v ∧ I w' ∧ Pv i v w' ∧ L w w') (putAll ops vs mid a) w)
    (hend : ∀ (vs : Nat → Value) (w : World), I w → (∀ i ∈ mid, Pv i (vs i) w) → Q .normal (putAll ops vs mid a) w) :
    ∀ (fuel : Nat) (listed : Array Bool) (vs : Nat → Value) (w : World), (∀ i, i < ops.size → i ∉ mid → listed.getD i false = true) → listed.size = ops.size → left listed mid ≤ fuel → I w →
      (∀ i ∈ mid, listed.getD i false = true → Pv i (vs i) w) → wpAnyH P md ops Q S fuel listed (putAll ops vs mid a) w := by
  intro fuel
  have hlt : ∀ i ∈ mid, ∀ listed : Array Bool, listed.size = ops.size → listed.getD i true = false → i < ops.size := fun i _ listed hs hu => by
    rcases Nat.lt_or_ge i listed.size with h | h
    · omega
    · simp [Array.getElem?_eq_none h] at hu
  -- where nothing may come up, all have come up
  have hall : ∀ (listed : Array Bool), (∀ i, i < ops.size → i ∉ mid → listed.getD i false = true) → listed.size = ops.size → Region.ready md ops listed = [] → ∀ i, i < ops.size → listed.getD i false = true := by
    intro listed hno hs hr i
    induction i using Nat.strongRecOn with
    | ind i ih =>
      intro hi
      cases hc : listed.getD i false with
      | true => rfl
      | false =>
        exfalso
        have hm : i ∈ Region.ready md ops listed := by
          rw [mem_ready]
          have hlt' : i < listed.size := by omega
          refine ⟨by simp [hlt'] at hc ⊢; exact hc, ops[i], Array.getElem?_eq_getElem hi, fun e he _ => ?_⟩
          have := hac i ops[i] (Array.getElem?_eq_getElem hi) e he
          exact ih e.on this (by omega)
        rw [hr] at hm
        cases hm
  induction fuel with
  | zero =>
    intro listed vs w hno hs hl hS hP
    have hnone : ∀ i, i < ops.size → listed.getD i false = true := by
      intro i hi
      by_cases hm : i ∈ mid
      · cases hc : listed.getD i false with
        | true => rfl
        | false =>
          exfalso
          have hlt' : i < listed.size := by omega
          have hmem : i ∈ mid.filter (fun i => !listed.getD i true) := by
            rw [List.mem_filter]; refine ⟨hm, ?_⟩; simp [hlt'] at hc ⊢; exact hc
          have : left listed mid = 0 := by omega
          unfold left at this
          rw [List.eq_nil_of_length_eq_zero this] at hmem
          cases hmem
      · exact hno i hi hm
    have hr : Region.ready md ops listed = [] := by
      apply List.eq_nil_iff_forall_not_mem.2
      intro i hi
      obtain ⟨hu, o, ho, _⟩ := mem_ready.1 hi
      have hi2 : i < ops.size := (Array.getElem?_eq_some_iff.1 ho).1
      have := hnone i hi2
      have hlt' : i < listed.size := by omega
      simp [hlt'] at hu this
      rw [hu] at this; cases this
    exact ⟨hr, hend vs w hS (fun i hi => hP i hi (hnone i (hin i hi)))⟩
  | succ fuel ih =>
    intro listed vs w hno hs hl hS hP
    refine ⟨fun hr => hend vs w hS (fun i hi => hP i hi (hall listed hno hs hr i (hin i hi))), fun i hi => ?_⟩
    obtain ⟨hu, o, ho, hdep⟩ := mem_ready.1 hi
    have hi2 : i < ops.size := (Array.getElem?_eq_some_iff.1 ho).1
    have hlt' : i < listed.size := by omega
    have hmid : i ∈ mid := by
      rcases Classical.em (i ∈ mid) with h | h
      · exact h
      · have := hno i hi2 h
        simp [hlt'] at hu this
        rw [hu] at this; cases this
    refine wpOp_mono ?_ (hstep i hmid vs w hS (fun d hd => ?_))
    · rintro a' w' ⟨v, rfl, hS', hv, hB⟩
      refine ⟨hIS _ hS', ?_⟩
      rw [putAll_upd vs i v mid a hap hmid]
      refine ih _ _ _ (fun j hj hjm => getD_set_true (hno j hj hjm)) (by rw [Array.size_setIfInBounds]; exact hs) (by have := left_set hmid hu; omega) hS' (fun j hj hlj => ?_)
      by_cases hji : j = i
      · subst hji; rw [show upd vs j v j = v from if_pos rfl]; exact hv
      · rw [show upd vs i v j = vs j from if_neg hji]
        exact hst j _ _ _ (hP j hj (by rw [getD_set_ne false (fun h => hji h.symm)] at hlj; exact hlj)) hB
    · obtain ⟨hdm, o', e, ho', he, hb, rfl⟩ := hdp i hmid d hd
      rw [ho] at ho'
      obtain rfl := Option.some.inj ho'
      exact hP _ hdm (hdep e he hb)

/-- The same with the slots written out. -/
def putEx (vs : Nat → Value) : List (Nat × Option Tmp) → Act → Act
  | [], a => a
  | (i, d) :: r, a => putEx vs r (a.put d (vs i))
theorem putEx_eq (vs : Nat → Value) : ∀ (r : List (Nat × Option Tmp)) (a : Act), (∀ x ∈ r, dstOf ops x.1 = x.2) → putEx vs r a = putAll ops vs (r.map Prod.fst) a := by
  intro r
  induction r with
  | nil => intro a _; rfl
  | cons x r ih =>
    intro a h
    obtain ⟨i, d⟩ := x
    show putEx vs r (a.put d (vs i)) = putAll ops vs (r.map Prod.fst) (a.put (dstOf ops i) (vs i))
    rw [h (i, d) (by simp), ih _ (fun y hy => h y (List.mem_cons_of_mem _ hy))]
def here (a : Act) (d : Option Tmp) : Value := match d with
  | some d => a.tmps.getD d undef
  | none => undef
theorem put_here (a : Act) (d : Option Tmp) : a.put d (here a d) = a := by
  cases d with
  | none => rfl
  | some d =>
    simp only [Act.put, here]
    congr 1
    apply Array.ext
    · simp
    · intro i h1 h2
      rw [Array.getElem_setIfInBounds]
      split
      · rename_i h; subst h; simp [h2]
      · rfl
theorem putAll_here (a : Act) : ∀ (r : List Nat), putAll ops (fun i => here a (dstOf ops i)) r a = a := by
  intro r
  induction r with
  | nil => rfl
  | cons i r ih =>
    show putAll ops _ r (a.put (dstOf ops i) (here a (dstOf ops i))) = a
    rw [put_here]; exact ih

/-- All that is asked of the region itself, as one Bool. -/
def flowOk (md : Region.Mode) (ops : Array Oper) (listed : Array Bool) (fuel : Nat) (mids : List (Nat × Option Tmp)) (dp : Nat → List Nat) : Bool :=
  mids.all (fun x => dstOf ops x.1 == x.2) && apartB ops (mids.map Prod.fst) &&
  mids.all (fun x => decide (x.1 < ops.size) && !listed.getD x.1 false && (dp x.1).all (fun d => (mids.map Prod.fst).contains d && (match ops[x.1]? with | some o => o.after.any (fun e => Region.binds md e && e.on == d) | none => false))) &&
  (List.range ops.size).all (fun i => (match ops[i]? with | some o => o.after.all (fun e => decide (e.on < i)) | none => true) && ((mids.map Prod.fst).contains i || listed.getD i false)) &&
  listed.size == ops.size && decide (left listed (mids.map Prod.fst) ≤ fuel)

def Steps (L : World → World → Prop) (P : Program) (ops : Array Oper) (Q : Exit → Act → World → Prop) (I : World → Prop) (a : Act) (mids : List (Nat × Option Tmp)) (dp : Nat → List Nat) (Pv : Nat → Value → World → Prop) (rs : List Nat) : Prop :=
  ∀ i ∈ rs, ∀ (vs : Nat → Value) (w : World), I w → (∀ d ∈ dp i, Pv d (vs d) w) →
      wpOp P ops Q i (fun a' w' => ∃ v, a' = (putEx vs mids a).put (dstOf ops i) v ∧ I w' ∧ Pv i v w' ∧ L w w') (putEx vs mids a) w
theorem Steps.nil {I : World → Prop} {a : Act} {mids : List (Nat × Option Tmp)} {dp : Nat → List Nat} {Pv : Nat → Value → World → Prop} : Steps L P ops Q I a mids dp Pv [] := fun _ h => by cases h
theorem Steps.cons {I : World → Prop} {a : Act} {mids : List (Nat × Option Tmp)} {dp : Nat → List Nat} {Pv : Nat → Value → World → Prop} {i : Nat} {o : Oper} {rs : List Nat} (ho : ops[i]? = some o)
    (h : ∀ (vs : Nat → Value) (w : World) (K' : Act → World → Prop), I w → (∀ d ∈ dp i, Pv d (vs d) w) → Shut (∀ v w', I w' → Pv i v w' → L w w' → K' ((putEx vs mids a).put o.dst v) w') →
      if Region.wanted o (yielded ops (putEx vs mids a).tmps) = true then Oper.wp P o (putEx vs mids a) w K' Q else K' ((putEx vs mids a).put o.dst undef) w)
    (hs : Steps L P ops Q I a mids dp Pv rs) : Steps L P ops Q I a mids dp Pv (i :: rs) := fun j hj => by
  rcases List.mem_cons.1 hj with rfl | hj
  · intro vs w hS hd
    have hdst : dstOf ops j = o.dst := by unfold dstOf; rw [ho]; rfl
    refine wpOp_step ho (fun K' hK => h vs w K' hS hd (fun v w' h1 h2 h3 => hK _ _ ⟨v, by rw [hdst], h1, h2, h3⟩))
  · exact hs j hj

/-- The law: every order of the operations 'mids' (slot by slot), each with its word. -/
theorem wpAnyH_flow {fuel : Nat} {listed : Array Bool} {a : Act} {w : World} (L : World → World → Prop) (I : World → Prop) (hIS : ∀ w, I w → S w) (mids : List (Nat × Option Tmp)) (dp : Nat → List Nat) (Pv : Nat → Value → World → Prop) (hok : flowOk md ops listed fuel mids dp = true)
    (hst : ∀ i v w w', Pv i v w → L w w' → Pv i v w') (hS : I w) (hsteps : Steps L P ops Q I a mids dp Pv (mids.map Prod.fst))
    (hend : ∀ (vs : Nat → Value) (w : World), I w → (∀ i ∈ mids.map Prod.fst, Pv i (vs i) w) → Q .normal (putEx vs mids a) w) :
    wpAnyH P md ops Q S fuel listed a w := by
  simp only [flowOk, Bool.and_eq_true, List.all_eq_true, beq_iff_eq, decide_eq_true_eq] at hok
  obtain ⟨⟨⟨⟨⟨h1, h2⟩, h3⟩, h4⟩, h5⟩, h6⟩ := hok
  have he : ∀ vs, putEx vs mids a = putAll ops vs (mids.map Prod.fst) a := fun vs => putEx_eq vs mids a h1
  have key := wpAnyH_flow_go L I hIS (P := P) (Q := Q) (md := md) (S := S) a (mids.map Prod.fst) dp Pv h2
    (fun i hi => by obtain ⟨x, hx, rfl⟩ := List.mem_map.1 hi; exact (h3 x hx).1.1)
    (fun i o ho e hee => by
      have hi : i < ops.size := (Array.getElem?_eq_some_iff.1 ho).1
      have := (h4 i (List.mem_range.2 hi)).1
      rw [ho] at this
      simp only [Array.all_eq_true_iff_forall_mem, decide_eq_true_eq] at this
      exact this e hee)
    (fun i hi d hd => by
      obtain ⟨x, hx, rfl⟩ := List.mem_map.1 hi
      obtain ⟨h7, h8⟩ := (h3 x hx).2 d hd
      refine ⟨by simpa using h7, ?_⟩
      cases ho : ops[x.1]? with
      | none => rw [ho] at h8; cases h8
      | some o =>
        rw [ho] at h8
        simp only [Array.any_eq_true] at h8
        obtain ⟨k, hk, hk2⟩ := h8
        simp only [Bool.and_eq_true, beq_iff_eq] at hk2
        exact ⟨o, o.after[k], rfl, Array.getElem_mem hk, hk2.1, hk2.2⟩)
    hst (fun i hi vs w hS hd => by rw [← he]; exact hsteps i hi vs w hS hd) (fun vs w hS hP => by rw [← he]; exact hend vs w hS hP)
    fuel listed (fun i => here a (dstOf ops i)) w
    (fun i hi hm => by
      have := (h4 i (List.mem_range.2 hi)).2
      rcases Bool.or_eq_true _ _ ▸ this with h | h
      · exact absurd (by simpa using h) hm
      · exact h)
    h5 h6 hS (fun i hi hl => by
      obtain ⟨x, hx, rfl⟩ := List.mem_map.1 hi
      have := (h3 x hx).1.2
      rw [hl] at this; cases this)
  rw [putAll_here] at key
  exact key

/-- The same, the act written out once. -/
def StepsF (L : World → World → Prop) (P : Program) (ops : Array Oper) (Q : Exit → Act → World → Prop) (I : World → Prop) (f : (Nat → Value) → Act) (dp : Nat → List Nat) (Pv : Nat → Value → World → Prop) (rs : List Nat) : Prop :=
  ∀ i ∈ rs, ∀ (vs : Nat → Value) (w : World), I w → (∀ d ∈ dp i, Pv d (vs d) w) →
      wpOp P ops Q i (fun a' w' => ∃ v, a' = (f vs).put (dstOf ops i) v ∧ I w' ∧ Pv i v w' ∧ L w w') (f vs) w
theorem StepsF.nil {I : World → Prop} {f : (Nat → Value) → Act} {dp : Nat → List Nat} {Pv : Nat → Value → World → Prop} : StepsF L P ops Q I f dp Pv [] := fun _ h => by cases h
theorem StepsF.cons {I : World → Prop} {f : (Nat → Value) → Act} {dp : Nat → List Nat} {Pv : Nat → Value → World → Prop} {i : Nat} {o : Oper} {rs : List Nat} (ho : ops[i]? = some o)
    (h : ∀ (vs : Nat → Value) (w : World) (K' : Act → World → Prop), I w → (∀ d ∈ dp i, Pv d (vs d) w) → Shut (∀ v w', I w' → Pv i v w' → L w w' → K' ((f vs).put o.dst v) w') →
      if Region.wanted o (yielded ops (f vs).tmps) = true then Oper.wp P o (f vs) w K' Q else K' ((f vs).put o.dst undef) w)
    (hs : StepsF L P ops Q I f dp Pv rs) : StepsF L P ops Q I f dp Pv (i :: rs) := fun j hj => by
  rcases List.mem_cons.1 hj with rfl | hj
  · intro vs w hS hd
    have hdst : dstOf ops j = o.dst := by unfold dstOf; rw [ho]; rfl
    refine wpOp_step ho (fun K' hK => h vs w K' hS hd (fun v w' h1 h2 h3 => hK _ _ ⟨v, by rw [hdst], h1, h2, h3⟩))
  · exact hs j hj
theorem wpAnyH_flowF {fuel : Nat} {listed : Array Bool} {a : Act} {w : World} {f : (Nat → Value) → Act} (L : World → World → Prop) (I : World → Prop) (hIS : ∀ w, I w → S w) (mids : List (Nat × Option Tmp)) (dp : Nat → List Nat) (Pv : Nat → Value → World → Prop) (hok : flowOk md ops listed fuel mids dp = true)
    (hf : ∀ vs, putEx vs mids a = f vs)
    (hst : ∀ i v w w', Pv i v w → L w w' → Pv i v w') (hS : I w) (hsteps : StepsF L P ops Q I f dp Pv (mids.map Prod.fst))
    (hend : ∀ (vs : Nat → Value) (w : World), I w → (∀ i ∈ mids.map Prod.fst, Pv i (vs i) w) → Q .normal (f vs) w) :
    wpAnyH P md ops Q S fuel listed a w :=
  wpAnyH_flow L I hIS mids dp Pv hok hst hS (fun i hi vs w hS hd => by rw [hf]; exact hsteps i hi vs w hS hd) (fun vs w hS h => by rw [hf]; exact hend vs w hS h)
end
end Go.Proofs.Ytpalhpkbdkodfaa.flowl
