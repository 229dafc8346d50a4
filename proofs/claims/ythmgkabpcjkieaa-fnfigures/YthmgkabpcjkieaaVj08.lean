/-
  A region that draws its order, walked by what holds of the operations that have come up: one step an operation serves every order. No function walked.
-/
import Derived.Test.YthmgkabpcjkieaaVj04
import Derived.Test.YthmgkabpcjkieaaVj07
import Derived.StillTailTactics
namespace Go.Proofs.Ythmgkabpcjkieaa
open Go.RowKit
set_option linter.unusedVariables false

theorem count_set : ∀ (x : List Bool) (i : Nat), x[i]? = some false → (x.set i true).count false + 1 = x.count false
  | [], i, h => by simp at h
  | b :: r, 0, h => by simp at h; subst h; simp
  | b :: r, i + 1, h => by
    have ih := count_set r i (by simpa using h)
    simp only [List.set_cons_succ, List.count_cons]
    omega
theorem no_false {x : List Bool} (h : x.count false = 0) (i : Nat) : x[i]? ≠ some false := fun e => by
  have := List.count_pos_iff.2 (List.mem_of_getElem? e)
  omega
section
variable {P : Program} {Q : Exit → Act → World → Prop} {l : List Oper} (R : List Bool → Act → World → Prop)

theorem ready_facts {x : List Bool} (hx : x.length = l.length) {i : Nat} (h : i ∈ Region.ready .any l.toArray x.toArray) :
    ∃ o, l[i]? = some o ∧ x[i]? = some false ∧ ∀ e ∈ o.after, Region.binds .any e = true → x[e.on]? = some true := by
  obtain ⟨h1, o, h2, h3⟩ := mem_ready.1 h
  refine ⟨o, by simpa using h2, ?_, fun e he hb => ?_⟩
  · by_cases hi : i < x.length
    · simp [hi] at h1; simp [hi, h1]
    · simp [hi] at h1
  · have := h3 e he hb
    by_cases hi : e.on < x.length
    · simp [hi] at this; simp [hi, this]
    · simp [hi] at this
theorem ready_none {x : List Bool} (h : Region.ready .any l.toArray x.toArray = []) (hx : x.length = l.length) (i : Nat) (o : Oper) (ho : l[i]? = some o) (hall : ∀ e ∈ o.after, Region.binds .any e = true → x[e.on]? = some true) : x[i]? = some true := by
  have hi : i < x.length := by rw [hx]; exact (List.getElem?_eq_some_iff.1 ho).1
  cases hb : x[i]
  · exfalso
    have : i ∈ Region.ready .any l.toArray x.toArray := mem_ready.2 ⟨by simp [hi, hb], o, by simpa using ho, fun e he hbd => by
      have := hall e he hbd
      obtain ⟨h1, h2⟩ := List.getElem?_eq_some_iff.1 this
      simp [h1, h2]⟩
    rw [h] at this; simp at this
  · simp [hi, hb]
theorem wpAny_inv
    (hend : ∀ x a w, R x a w → x.length = l.length → Region.ready .any l.toArray x.toArray = [] → Q .normal a w)
    (hstep : ∀ x a w i o, R x a w → x.length = l.length → l[i]? = some o → x[i]? = some false → (∀ e ∈ o.after, Region.binds .any e = true → x[e.on]? = some true) →
      (if Region.wanted o (yielded l.toArray a.tmps) then o.wp P a w (fun a' w' => R (x.set i true) a' w') Q else R (x.set i true) (a.put o.dst undef) w)) :
    ∀ (n : Nat) (x : List Bool) (a : Act) (w : World), x.count false = n → x.length = l.length → R x a w → wpAny P .any l.toArray Q n x.toArray a w
  | 0, x, a, w, hn, hx, hR => by
    have hr : Region.ready .any l.toArray x.toArray = [] := by
      apply List.eq_nil_iff_forall_not_mem.2
      intro i hi
      obtain ⟨o, _, h2, _⟩ := ready_facts hx hi
      exact no_false hn i h2
    exact ⟨hr, hend x a w hR hx hr⟩
  | n + 1, x, a, w, hn, hx, hR => by
    refine ⟨fun hr => hend x a w hR hx hr, fun i hi => ?_⟩
    obtain ⟨o, h1, h2, h3⟩ := ready_facts hx hi
    have hs := hstep x a w i o hR hx h1 h2 h3
    have hc := count_set x i h2
    have hnext : ∀ a' w', R (x.set i true) a' w' → wpAny P .any l.toArray Q n (x.toArray.setIfInBounds i true) a' w' := fun a' w' h => by
      have := wpAny_inv hend hstep n (x.set i true) a' w' (by omega) (by simpa using hx) h
      simpa using this
    have ho : l.toArray[i]? = some o := by simpa using h1
    unfold wpOp
    rw [ho]
    simp only
    split
    · next hw => rw [if_pos hw] at hs; exact .inl (Oper.wp_mono hnext hs)
    · next hw => rw [if_neg hw] at hs; exact hnext _ _ hs
theorem wp_region_inv {id : Nat} {a : Act} {w : World} (hm : P.follows .mixedOrders = true)
    (h0 : R (List.replicate l.length false) a { w with drawn := w.drawn + 1 })
    (hend : ∀ x a w, R x a w → x.length = l.length → Region.ready .any l.toArray x.toArray = [] → Q .normal a w)
    (hstep : ∀ x a w i o, R x a w → x.length = l.length → l[i]? = some o → x[i]? = some false → (∀ e ∈ o.after, Region.binds .any e = true → x[e.on]? = some true) →
      (if Region.wanted o (yielded l.toArray a.tmps) then o.wp P a w (fun a' w' => R (x.set i true) a' w') Q else R (x.set i true) (a.put o.dst undef) w)) :
    (Code.region id l.toArray true).wp P Q a w := by
  refine wp_region_any hm ?_
  have := wpAny_inv R hend hstep l.length (List.replicate l.length false) a { w with drawn := w.drawn + 1 } (by simp) (by simp) h0
  simpa using this
end
/-- What holds in a region in which memory grows: each operation that has come up has its value. -/
def RGrow (base : World) (F : (Nat → Value) → Act) (C : Nat → Value → Prop) (x : List Bool) (A : Act) (W : World) : Prop :=
  ∃ f, A = F f ∧ Below base.heap.size base W ∧ ∀ j, x[j]? = some true → C j (f j)
theorem step_upd {C : Nat → Value → Prop} {x : List Bool} {f : Nat → Value} {i : Nat} {v : Value} (h : ∀ j, x[j]? = some true → C j (f j)) (hv : C i v) : ∀ j, (x.set i true)[j]? = some true → C j (upd f i v j) := fun j hj => by
  by_cases hji : j = i
  · subst hji; rw [upd_same]; exact hv
  · rw [upd_ne _ _ hji]; rw [List.getElem?_set_ne (fun e => hji e.symm)] at hj; exact h j hj
theorem ready_all {l : List Oper} {x : List Bool} (h : Region.ready .any l.toArray x.toArray = []) (hx : x.length = l.length) (hacy : ∀ (i : Nat) (o : Oper), l[i]? = some o → ∀ e ∈ o.after, e.on < i) : ∀ i, i < l.length → x[i]? = some true := by
  intro i
  induction i using Nat.strongRecOn with
  | _ i ih =>
    intro hi
    refine ready_none h hx i l[i] (List.getElem?_eq_getElem hi) fun e he _ => ?_
    have := hacy i l[i] (List.getElem?_eq_getElem hi) e he
    exact ih e.on this (by omega)
end Go.Proofs.Ythmgkabpcjkieaa
namespace Go.Proofs.Ythmgkabpcjkieaa
open Go.RowKit
set_option linter.unusedVariables false

/-- Each operation that has come up has its value; k is the operation that writes. -/
def RG (base : World) (F : (Nat → Value) → Act) (k : Nat) (D : Prop → World → Nat → Value → Prop) (x : List Bool) (A : Act) (W : World) : Prop :=
  ∃ f, A = F f ∧ Below base.heap.size base W ∧ ∀ j, x[j]? = some true → D (x[k]? = some true) W j (f j)
section
variable {base W W' : World} {F : (Nat → Value) → Act} {k : Nat} {D : Prop → World → Nat → Value → Prop} {x : List Bool} {f : Nat → Value}
theorem rg_grow (hm : ∀ p W W' j v, Below W.heap.size W W' → D p W j v → D p W' j v) (hb : Below base.heap.size base W) (h : ∀ j, x[j]? = some true → D (x[k]? = some true) W j (f j)) (hg : Below W.heap.size W W') {i : Nat} (hik : i ≠ k) {v : Value} (hv : D (x[k]? = some true) W' i v) :
    Below base.heap.size base W' ∧ ∀ j, (x.set i true)[j]? = some true → D ((x.set i true)[k]? = some true) W' j (upd f i v j) := by
  refine ⟨hb.trans (hg.mono hb.size), fun j hj => ?_⟩
  rw [List.getElem?_set_ne hik]
  by_cases hji : j = i
  · subst hji; rw [upd_same]; exact hv
  · rw [upd_ne _ _ hji]
    rw [List.getElem?_set_ne (fun e => hji e.symm)] at hj
    exact hm _ _ _ _ _ hg (h j hj)
theorem rg_same (hb : Below base.heap.size base W) (h : ∀ j, x[j]? = some true → D (x[k]? = some true) W j (f j)) {i : Nat} (hik : i ≠ k) {v : Value} (hv : D (x[k]? = some true) W i v) :
    Below base.heap.size base W ∧ ∀ j, (x.set i true)[j]? = some true → D ((x.set i true)[k]? = some true) W j (upd f i v j) := by
  refine ⟨hb, fun j hj => ?_⟩
  rw [List.getElem?_set_ne hik]
  by_cases hji : j = i
  · subst hji; rw [upd_same]; exact hv
  · rw [upd_ne _ _ hji]
    rw [List.getElem?_set_ne (fun e => hji e.symm)] at hj
    exact h j hj
end
theorem set_monoG {x : List Bool} {i j : Nat} (h : x[j]? = some true) : (x.set i true)[j]? = some true := by
  by_cases hij : i = j
  · subst hij; exact List.getElem?_set_self (List.getElem?_eq_some_iff.1 h).1
  · rw [List.getElem?_set_ne hij]; exact h
/-- What has come up has all ahead of it that it waits for. -/
def Closed (l : List Oper) (x : List Bool) : Prop := ∀ (i : Nat) (o : Oper), l[i]? = some o → x[i]? = some true → ∀ e ∈ o.after, Region.binds .any e = true → x[e.on]? = some true
theorem closed_step {l : List Oper} {x : List Bool} {i : Nat} {o : Oper} (h : Closed l x) (ho : l[i]? = some o) (hall : ∀ e ∈ o.after, Region.binds .any e = true → x[e.on]? = some true) : Closed l (x.set i true) := by
  intro j o' ho' hj e he hb
  by_cases hji : j = i
  · subst hji
    rw [ho] at ho'
    obtain rfl := Option.some.inj ho'
    exact set_monoG (hall e he hb)
  · rw [List.getElem?_set_ne (fun e => hji e.symm)] at hj
    exact set_monoG (h j o' ho' hj e he hb)
theorem wp_region_inv2 {P : Program} {Q : Exit → Act → World → Prop} {l : List Oper} (R : List Bool → Act → World → Prop) {id : Nat} {a : Act} {w : World} (hm : P.follows .mixedOrders = true)
    (h0 : R (List.replicate l.length false) a { w with drawn := w.drawn + 1 })
    (hend : ∀ x a w, R x a w → x.length = l.length → Region.ready .any l.toArray x.toArray = [] → Q .normal a w)
    (hstep : ∀ x a w i o, R x a w → Closed l x → x.length = l.length → l[i]? = some o → x[i]? = some false → (∀ e ∈ o.after, Region.binds .any e = true → x[e.on]? = some true) →
      (if Region.wanted o (yielded l.toArray a.tmps) then o.wp P a w (fun a' w' => R (x.set i true) a' w') Q else R (x.set i true) (a.put o.dst undef) w)) :
    (Code.region id l.toArray true).wp P Q a w := by
  refine wp_region_inv (fun x a w => R x a w ∧ Closed l x) hm ⟨h0, fun i o _ hi => by rw [List.getElem?_replicate] at hi; split at hi <;> simp at hi⟩ (fun x a w h => hend x a w h.1) ?_
  intro x a w i o h hx ho hxi hall
  have hs := hstep x a w i o h.1 h.2 hx ho hxi hall
  have hc := closed_step h.2 ho hall
  split
  · next hw => rw [if_pos hw] at hs; exact Oper.wp_mono (fun a' w' hR => ⟨hR, hc⟩) hs
  · next hw => rw [if_neg hw] at hs; exact ⟨hs, hc⟩
theorem wp_append_none {P : Program} {w : World} {o : Oper} {a : Act} {K : Act → World → Prop} {Q : Exit → Act → World → Prop} (s x : Operand) (t : TypeId)
    (ho : o.op = .call { callee := .builtin .append, args := #[s, x], argTypes := #[t, t] })
    (base : Nat) (e : TypeId) (i : TypeInfo) (size : Nat) (ht : P.underlying t = some (.slice e)) (hi : P.info? e = some i)
    (v : Value) (n : Nat) (xs : List Value) (hs : a.eval s = v) (hown : w.ownsRow base e size v n xs) (hx : a.eval x = .slice none 0 0)
    (h : K (a.put o.dst v) w) : o.wp P a w K Q := by
  have hrun := run_append_owned_none (P := P) (w := w) base t o.type e i size ht hi v n xs hown
  unfold Oper.wp
  simp [execOp, ho, resolve, invoke, builtin, hs, hx, hrun, Result.andThen]
  exact h
end Go.Proofs.Ythmgkabpcjkieaa
namespace Go.Proofs.Ythmgkabpcjkieaa
open Go.RowKit
set_option linter.unusedVariables false

theorem count_setT : ∀ (x : List Bool) (i : Nat), x[i]? = some false → (x.set i true).count true = x.count true + 1
  | [], i, h => by simp at h
  | b :: r, 0, h => by simp at h; subst h; simp
  | b :: r, i + 1, h => by
    have ih := count_setT r i (by simpa using h)
    simp only [List.set_cons_succ, List.count_cons]
    omega
/-- Each operation that has come up has its value; k is the operation that writes last; the world is of its class, by how many have come up. -/
def RS (B0 : Nat → World → Prop) (F : (Nat → Value) → Act) (k : Nat) (D : Prop → World → Nat → Value → Prop) (x : List Bool) (A : Act) (W : World) : Prop :=
  ∃ f, A = F f ∧ (¬ x[k]? = some true → B0 (x.count true) W) ∧ ∀ j, x[j]? = some true → D (x[k]? = some true) W j (f j)
section
variable {B0 : Nat → World → Prop} {W W' : World} {k : Nat} {D : Prop → World → Nat → Value → Prop} {x : List Bool} {f : Nat → Value}
theorem rs_step (h : ∀ j, x[j]? = some true → D (x[k]? = some true) W j (f j)) {i : Nat} (hik : i ≠ k) (hxi : x[i]? = some false) (hm : ∀ j v, D (x[k]? = some true) W j v → D (x[k]? = some true) W' j v) (hB : B0 (x.count true + 1) W') {v : Value} (hv : D (x[k]? = some true) W' i v) :
    (¬ (x.set i true)[k]? = some true → B0 ((x.set i true).count true) W') ∧ ∀ j, (x.set i true)[j]? = some true → D ((x.set i true)[k]? = some true) W' j (upd f i v j) := by
  refine ⟨fun _ => by rw [count_setT x i hxi]; exact hB, fun j hj => ?_⟩
  rw [List.getElem?_set_ne hik]
  by_cases hji : j = i
  · subst hji; rw [upd_same]; exact hv
  · rw [upd_ne _ _ hji]
    rw [List.getElem?_set_ne (fun e => hji e.symm)] at hj
    exact hm _ _ (h j hj)
theorem rs_last (h : ∀ j, x[j]? = some true → D (x[k]? = some true) W j (f j)) (hk : x[k]? = some false) (hm : ∀ j, j ≠ k → x[j]? = some true → D False W j (f j) → D True W' j (f j)) {v : Value} (hv : D True W' k v) :
    (¬ (x.set k true)[k]? = some true → B0 ((x.set k true).count true) W') ∧ ∀ j, (x.set k true)[j]? = some true → D ((x.set k true)[k]? = some true) W' j (upd f k v j) := by
  have e : ((x.set k true)[k]? = some true) = True := by
    rw [List.getElem?_set_self (List.getElem?_eq_some_iff.1 hk).1]; simp
  refine ⟨fun hn => absurd (by rw [e]; trivial) hn, fun j hj => ?_⟩
  rw [e]
  by_cases hji : j = k
  · subst hji; rw [upd_same]; exact hv
  · rw [upd_ne _ _ hji]
    rw [List.getElem?_set_ne (fun e => hji e.symm)] at hj
    refine hm j hji hj ?_
    have := h j hj
    rw [hk] at this
    simpa using this
end
end Go.Proofs.Ythmgkabpcjkieaa
namespace Go.Proofs.Ythmgkabpcjkieaa
open Go.RowKit
set_option linter.unusedVariables false

/-- What the three operations of a drawn price give. -/
def PrO (k a b c : Nat) : Prop := ∀ W : World, (convert 3 35 (.int .i64 k)).run Try.prog W = .ok (.float .f64 a) W ∧ (binOp .quo 35 (.float .f64 a) (.float .f64 4616189618054758400)).run Try.prog W = .ok (.float .f64 b) W ∧ (binOp .add 35 (.float .f64 4636666922610458624) (.float .f64 b)).run Try.prog W = .ok (.float .f64 c) W
theorem prO_of {k a b c : Nat} (h1 : ∀ W : World, (convert 3 35 (.int .i64 k)).run Try.prog W = .ok (.float .f64 a) W) (h2 : FloatKind.f64.format.div a 4616189618054758400 = some b) (h3 : FloatKind.f64.format.add 4636666922610458624 b = some c) : PrO k a b c :=
  fun W => ⟨h1 W, by simp [binOp, Op.floatArith, h2], by simp [binOp, Op.floatArith, h3]⟩
theorem prO_0 : PrO 0 0 0 4636666922610458624 := prO_of (fun W => by kernel_rfl) (by kernel_rfl) (by kernel_rfl)
theorem prO_1 : PrO 1 4607182418800017408 4598175219545276416 4636684514796503040 := prO_of (fun W => by kernel_rfl) (by kernel_rfl) (by kernel_rfl)
theorem prO_2 : PrO 2 4611686018427387904 4602678819172646912 4636702106982547456 := prO_of (fun W => by kernel_rfl) (by kernel_rfl) (by kernel_rfl)
theorem prO_3 : PrO 3 4613937818241073152 4604930618986332160 4636719699168591872 := prO_of (fun W => by kernel_rfl) (by kernel_rfl) (by kernel_rfl)
theorem prO_4 : PrO 4 4616189618054758400 4607182418800017408 4636737291354636288 := prO_of (fun W => by kernel_rfl) (by kernel_rfl) (by kernel_rfl)
theorem prO_5 : PrO 5 4617315517961601024 4608308318706860032 4636754883540680704 := prO_of (fun W => by kernel_rfl) (by kernel_rfl) (by kernel_rfl)
theorem prO_6 : PrO 6 4618441417868443648 4609434218613702656 4636772475726725120 := prO_of (fun W => by kernel_rfl) (by kernel_rfl) (by kernel_rfl)
theorem prO_7 : PrO 7 4619567317775286272 4610560118520545280 4636790067912769536 := prO_of (fun W => by kernel_rfl) (by kernel_rfl) (by kernel_rfl)
theorem prO_8 : PrO 8 4620693217682128896 4611686018427387904 4636807660098813952 := prO_of (fun W => by kernel_rfl) (by kernel_rfl) (by kernel_rfl)
theorem prO_any (k : Nat) (h : k < 9) : ∃ a b c, PrO k a b c ∧ PrW c := by
  rcases (by omega : k = 0 ∨ k = 1 ∨ k = 2 ∨ k = 3 ∨ k = 4 ∨ k = 5 ∨ k = 6 ∨ k = 7 ∨ k = 8) with rfl | rfl | rfl | rfl | rfl | rfl | rfl | rfl | rfl
  · exact ⟨_, _, _, prO_0, prW_of (by kernel_rfl)⟩
  · exact ⟨_, _, _, prO_1, prW_of (by kernel_rfl)⟩
  · exact ⟨_, _, _, prO_2, prW_of (by kernel_rfl)⟩
  · exact ⟨_, _, _, prO_3, prW_of (by kernel_rfl)⟩
  · exact ⟨_, _, _, prO_4, prW_of (by kernel_rfl)⟩
  · exact ⟨_, _, _, prO_5, prW_of (by kernel_rfl)⟩
  · exact ⟨_, _, _, prO_6, prW_of (by kernel_rfl)⟩
  · exact ⟨_, _, _, prO_7, prW_of (by kernel_rfl)⟩
  · exact ⟨_, _, _, prO_8, prW_of (by kernel_rfl)⟩
end Go.Proofs.Ythmgkabpcjkieaa
namespace Go.Proofs.Ythmgkabpcjkieaa
open Go.RowKit

def insT (s : Bool) (k : Int) : List Int → List Int
  | [] => [k]
  | a :: r => if bt s k a then k :: a :: r else if k = a then a :: r else a :: insT s k r
theorem insT_mem (s : Bool) (k x : Int) : ∀ T : List Int, x ∈ insT s k T ↔ x = k ∨ x ∈ T
  | [] => by simp [insT]
  | a :: r => by
    rw [insT]
    split
    · simp
    · split
      · next h => subst h; simp
      · simp [insT_mem s k x r]; constructor
        · rintro (h | h | h) <;> simp [h]
        · rintro (h | h | h) <;> simp [h]
theorem insT_sorted (s : Bool) (k : Int) : ∀ T : List Int, T.Pairwise (bt s) → (insT s k T).Pairwise (bt s)
  | [], _ => by simp [insT]
  | a :: r, h => by
    obtain ⟨p1, p2⟩ := List.pairwise_cons.1 h
    rw [insT]
    split
    · next hk => exact List.pairwise_cons.2 ⟨fun x hx => by
        rcases List.mem_cons.1 hx with rfl | hx
        · exact hk
        · exact bt_trans hk (p1 x hx), h⟩
    · next hk =>
      split
      · exact h
      · next hne =>
        refine List.pairwise_cons.2 ⟨fun x hx => ?_, insT_sorted s k r p2⟩
        rcases (insT_mem s k x r).1 hx with rfl | hx
        · rcases bt_total s x a with h1 | h1 | h1
          · exact absurd h1 hk
          · exact absurd h1 hne
          · exact h1
        · exact p1 x hx
/-- The prices of orders, the best first. -/
def tks (s : Bool) : List Od → List Int
  | [] => []
  | o :: r => insT s o.ticks (tks s r)
theorem isT_tks (s : Bool) : ∀ seq : List Od, IsT s seq (tks s seq)
  | [] => ⟨by simp [tks], by simp [tks]⟩
  | o :: r => by
    have ih := isT_tks s r
    refine ⟨insT_sorted s _ _ ih.sorted, fun k => ?_⟩
    rw [tks, insT_mem, ih.mem]
    constructor
    · rintro (rfl | ⟨o', h1, h2⟩)
      · exact ⟨o, by simp, rfl⟩
      · exact ⟨o', by simp [h1], h2⟩
    · rintro ⟨o', h1, h2⟩
      rcases List.mem_cons.1 h1 with rfl | h1
      · exact .inl h2.symm
      · exact .inr ⟨o', h1, h2⟩
theorem sortedT_unique {s : Bool} : ∀ {A B : List Int}, A.Pairwise (bt s) → B.Pairwise (bt s) → (∀ k, k ∈ A ↔ k ∈ B) → A = B
  | [], B, _, _, h => by
    cases B with
    | nil => rfl
    | cons b r => exact absurd ((h b).2 (by simp)) (by simp)
  | a :: A, [], _, _, h => absurd ((h a).1 (by simp)) (by simp)
  | a :: A, b :: B, hA, hB, h => by
    obtain ⟨p1, p2⟩ := List.pairwise_cons.1 hA
    obtain ⟨q1, q2⟩ := List.pairwise_cons.1 hB
    have hab : a = b := by
      rcases List.mem_cons.1 ((h a).1 (by simp)) with e | e
      · exact e
      · rcases List.mem_cons.1 ((h b).2 (by simp)) with e' | e'
        · exact e'.symm
        · exact absurd (p1 b e') (bt_asymm (q1 a e))
    subst hab
    rw [sortedT_unique p2 q2 fun k => ⟨fun hk => ?_, fun hk => ?_⟩]
    · rcases List.mem_cons.1 ((h k).1 (by simp [hk])) with e | e
      · subst e; exact absurd (p1 _ hk) (bt_irr _ _)
      · exact e
    · rcases List.mem_cons.1 ((h k).2 (by simp [hk])) with e | e
      · subst e; exact absurd (q1 _ hk) (bt_irr _ _)
      · exact e
theorem isT_unique {s : Bool} {seq : List Od} {A : List Int} (hA : IsT s seq A) : A = tks s seq :=
  sortedT_unique hA.sorted (isT_tks s seq).sorted fun k => (hA.mem k).trans ((isT_tks s seq).mem k).symm
/-- A level. -/
structure Lv where
  side : Int
  ticks : Int
  qty : Int
  count : Int
def Lv.vs (n : Lv) : List Value := [.int .i64 n.side, .int .i64 n.ticks, .int .i64 n.qty, .int .i64 n.count]
theorem Lv.len (o : Lv) : o.vs.length = 4 := rfl
def lvAt (sd : Int) (seq : List Od) (k : Int) : Lv := ⟨sd, k, sumL (atK seq k), (atK seq k).length⟩
/-- The levels of a side's orders. -/
def lvsOf (s : Bool) (sd : Int) (seq : List Od) : List Lv := (tks s seq).map (lvAt sd seq)
/-- The orders of a side as they trade. -/
def quOf (s : Bool) (seq : List Od) : List Od := (tks s seq).flatMap (atK seq)
def Nd.lv (n : Nd) : Lv := ⟨n.side, n.ticks, n.qty, n.count⟩
theorem tree_levels {s : Bool} {S : TS} {t : Tr} {sd : Int} {seq : List Od} (hi : TI s S t) (hq : QI S t sd seq) : (t.hs.map fun h => (S.nd h).lv) = lvsOf s sd seq := by
  rw [lvsOf, ← isT_unique (isT_of hi hq), List.map_map]
  refine List.map_congr_left fun h hh => ?_
  have hQ := hq.q h hh
  show Lv.mk _ _ _ _ = Lv.mk _ _ _ _
  rw [hQ.side, hQ.qty, hQ.cnt]
theorem tree_orders {s : Bool} {S : TS} {t : Tr} {sd : Int} {seq : List Od} (hi : TI s S t) (hq : QI S t sd seq) : (t.hs.flatMap fun h => (qs seq (S.nd h).ticks).map fun i => (S.qo i).od) = quOf s seq := by
  rw [quOf, ← isT_unique (isT_of hi hq), List.flatMap_map]
  rw [List.flatMap_def, List.flatMap_def]
  congr 1
  refine List.map_congr_left fun h hh => ?_
  exact qsF_map _ _ seq 1 (fun i o ho => hq.od i o ho)
def zOdv : Value := .agg #[.int .i64 0, .int .i64 0, .int .i64 0, .int .i64 0, .int .i64 0, .string ⟨#[]⟩]
/-- What is told of the front of a queue. -/
def frOf (q : List Od) : Value := match q.head? with
  | some o => .tuple #[o.val, .bool true]
  | none => .tuple #[zOdv, .bool false]
end Go.Proofs.Ythmgkabpcjkieaa
