/-
  The ticks of a price, by the model: proved by walking the function.
-/
import Derived.Test.YtfoabgghlnjjoaaRj01
import Derived.Test.YtfoabgghlnjjoaaRj02
import Derived.Deep.MidRow
import Derived.Handy
import Derived.WalkLawsBesides
namespace Go.Proofs.Ytfoabgghlnjjoaa
open Go.RowKit
set_option linter.unusedVariables false

/-- The whole quarters of a float within the bounds of prices, be it a price or not. -/
def tkS (x : Nat) : Int := if ((FloatKind.f64.format.order x 0 == some Ordering.gt) && ((FloatKind.f64.format.order x 4687829947429945344 == some Ordering.lt) || (FloatKind.f64.format.order x 4687829947429945344 == some Ordering.eq))) = true then tkN x else 0
theorem tkS_ok {x : Nat} (h : tkOk x = true) : tkS x = tk x := by
  unfold tk tkS
  rw [if_pos h]
  unfold tkOk at h
  rw [Bool.and_eq_true] at h
  rw [if_pos h.1]
set_option maxRecDepth 100000 in
set_option maxHeartbeats 1000000 in
theorem l01Ticks_any (x : Nat) (w : World) :
    Calls Try.prog 42 #[.float .f64 x] w fun e w' => e = .returned (.tuple #[.int .i64 (tkS x), .bool (tkOk x)]) ∧ w' = w := by
  by_cases h0 : FloatKind.f64.format.order x 0 = some Ordering.gt
  · by_cases h1 : FloatKind.f64.format.order x 4687829947429945344 = some Ordering.lt ∨ FloatKind.f64.format.order x 4687829947429945344 = some Ordering.eq
    · obtain ⟨r, n, hmul, hint, hn⟩ := price_four h0 h1
      have hn' : (n : Int) < 9007199254740992 := by omega
      have eR : tkR x = r := by unfold tkR; rw [show FloatKind.f64.format.mul x 4616189618054758400 = some r from hmul]; rfl
      have eN : tkN x = n := by unfold tkN; rw [eR, show (FloatKind.f64.decode r).toInt .zero = some (n : Int) from hint]; rfl
      have b0 : (FloatKind.f64.format.order x 0 == some Ordering.gt) = true := by rw [h0]; rfl
      have hm : ∀ W, (binOp .mul 25 (.float .f64 x) (.float .f64 4616189618054758400)).run Try.prog W = .ok (.float .f64 r) W := fun W => by
        have : FloatKind.f64.format.mul x 4616189618054758400 = some r := hmul
        simp [binOp, Op.floatArith, this]
      have hc : ∀ W, (convert 25 3 (.float .f64 r)).run Try.prog W = .ok (.int .i64 n) W := fun W => by
        have h2 : (FloatKind.f64.decode r).toInt .zero = some (n : Int) := hint
        have hb : IntKind.i64.min ≤ (n : Int) ∧ (n : Int) ≤ IntKind.i64.max := by
          rw [show IntKind.i64.min = -9223372036854775808 by decide, show IntKind.i64.max = 9223372036854775807 by decide]; omega
        simp [convert, run_underlying Try.underlying25, run_underlying Try.underlying3, Conv.floatToInt, h2, hb.1]
        intro h
        omega
      have h12 : ((FloatKind.f64.format.order x 4687829947429945344 == some Ordering.lt) || (FloatKind.f64.format.order x 4687829947429945344 == some Ordering.eq)) = true := by
        rcases h1 with h1 | h1 <;> rw [h1] <;> rfl
      have hok : tkOk x = (FloatKind.f64.format.order (floatOfInt .f64 n) r == some Ordering.eq) := by unfold tkOk; rw [eN, eR, b0, h12]; rfl
      have hS : tkS x = n := by unfold tkS; rw [b0, h12, eN]; rfl
      clear hmul hint h0 h12
      cases he : (FloatKind.f64.format.order (floatOfInt .f64 n) r == some Ordering.eq)
      all_goals
        have he2 : (FloatKind.f64.format.order (floatOfInt .f64 n) r != some Ordering.eq) = !(FloatKind.f64.format.order (floatOfInt .f64 n) r == some Ordering.eq) := rfl
        rw [he] at he2
        rw [he] at hok
      · have HT : Hid (tkS x = n ∧ tkOk x = false) := ⟨hS, hok⟩
        clear hok eN eR hS
        rcases h1 with h1 | h1
        · have b1 : (FloatKind.f64.format.order x 4687829947429945344 == some Ordering.lt) = true := by rw [h1]; rfl
          have b2 : (FloatKind.f64.format.order x 4687829947429945344 == some Ordering.eq) = false := by rw [h1]; rfl
          clear h1
          go_enter Try.func42, Try.ntmps42
          go_wp2
          go_ret2
          exact ⟨by rw [(unhide HT).1, (unhide HT).2]; rfl, rfl⟩
        · have b1 : (FloatKind.f64.format.order x 4687829947429945344 == some Ordering.lt) = false := by rw [h1]; rfl
          have b2 : (FloatKind.f64.format.order x 4687829947429945344 == some Ordering.eq) = true := by rw [h1]; rfl
          clear h1
          go_enter Try.func42, Try.ntmps42
          go_wp2
          go_ret2
          exact ⟨by rw [(unhide HT).1, (unhide HT).2]; rfl, rfl⟩
      · have HT : Hid (tkS x = n ∧ tkOk x = true) := ⟨hS, hok⟩
        clear hok eN eR hS
        rcases h1 with h1 | h1
        · have b1 : (FloatKind.f64.format.order x 4687829947429945344 == some Ordering.lt) = true := by rw [h1]; rfl
          have b2 : (FloatKind.f64.format.order x 4687829947429945344 == some Ordering.eq) = false := by rw [h1]; rfl
          clear h1
          go_enter Try.func42, Try.ntmps42
          go_wp2
          go_ret2
          exact ⟨by rw [(unhide HT).1, (unhide HT).2]; rfl, rfl⟩
        · have b1 : (FloatKind.f64.format.order x 4687829947429945344 == some Ordering.lt) = false := by rw [h1]; rfl
          have b2 : (FloatKind.f64.format.order x 4687829947429945344 == some Ordering.eq) = true := by rw [h1]; rfl
          clear h1
          go_enter Try.func42, Try.ntmps42
          go_wp2
          go_ret2
          exact ⟨by rw [(unhide HT).1, (unhide HT).2]; rfl, rfl⟩
    · have b0 : (FloatKind.f64.format.order x 0 == some Ordering.gt) = true := by rw [h0]; rfl
      have b1 : (FloatKind.f64.format.order x 4687829947429945344 == some Ordering.lt) = false := by rw [beq_eq_false_iff_ne]; exact fun h => h1 (.inl h)
      have b2 : (FloatKind.f64.format.order x 4687829947429945344 == some Ordering.eq) = false := by rw [beq_eq_false_iff_ne]; exact fun h => h1 (.inr h)
      have hok : tkOk x = false := by unfold tkOk; rw [b0, b1, b2]; rfl
      have HT : Hid (tkS x = 0 ∧ tkOk x = false) := ⟨by unfold tkS; rw [b0, b1, b2]; rfl, hok⟩
      clear h0 h1 hok
      go_enter Try.func42, Try.ntmps42
      go_wp2
      go_ret2
      exact ⟨by rw [(unhide HT).1, (unhide HT).2]; rfl, rfl⟩
  · have b0 : (FloatKind.f64.format.order x 0 == some Ordering.gt) = false := by rw [beq_eq_false_iff_ne]; exact h0
    have hok : tkOk x = false := by unfold tkOk; rw [b0]; rfl
    have HT : Hid (tkS x = 0 ∧ tkOk x = false) := ⟨by unfold tkS; rw [b0]; rfl, hok⟩
    clear h0 hok
    go_enter Try.func42, Try.ntmps42
    go_wp2
    go_ret2
    exact ⟨by rw [(unhide HT).1, (unhide HT).2]; rfl, rfl⟩
end Go.Proofs.Ytfoabgghlnjjoaa
/-
  Rows of records in memory (slices of structs), those that came in and those that the call made: what they read as, and what stays of them; no function walked.
-/
namespace Go.Proofs.Ytfoabgghlnjjoaa
open Go.RowKit

theorem range_below {C : Nat} {w w' : World} {b o : Nat} {cs : List Value} (h : w.rangeAt b o cs) (hb : Below C w w') (hC : b < C) : w'.rangeAt b o cs :=
  fun j v hv => (hb.cell (p := ⟨b, o + j, none⟩) hC).trans (h j v hv)
theorem there_below {C : Nat} {w w' : World} {b o n : Nat} (h : w.there b o n) (hb : Below C w w') (hC : b < C) : w'.there b o n :=
  fun j hj => ⟨by rw [hb.cell (p := ⟨b, o + j, none⟩) hC]; exact (h j hj).1, by rw [hb.frozen (p := ⟨b, o + j, none⟩) hC]; exact (h j hj).2⟩
theorem range_grown {G : Option Nat} {w w' : World} {b o : Nat} {cs : List Value} (h : w.rangeAt b o cs) (hg : w.grownBy w' G) (hb : b < w.heap.size) (hne : some b ≠ G) : w'.rangeAt b o cs :=
  fun j v hv => (World.cell?_of_block (a := ⟨b, o + j, none⟩) (hg.block b hb hne)).trans (h j v hv)
theorem there_grown {G : Option Nat} {w w' : World} {b o n : Nat} (h : w.there b o n) (hg : w.grownBy w' G) (hb : b < w.heap.size) (hne : some b ≠ G) : w'.there b o n :=
  fun j hj => ⟨by rw [World.cell?_of_block (a := ⟨b, o + j, none⟩) (hg.block b hb hne)]; exact (h j hj).1, by rw [World.frozen?_of_block (a := ⟨b, o + j, none⟩) (hg.block b hb hne)]; exact (h j hj).2⟩
theorem below_gr {w w' : World} {B : Nat} {G : Option Nat} (h : Below B w w') (hB : w.heap.size ≤ B) : w.grownBy w' G :=
  ⟨h.os, h.tape, h.output, h.size, fun k hk _ => h.block k (by omega)⟩
theorem gr_below' {w w' : World} {G : Option Nat} {B : Nat} (h : w.grownBy w' G) (hG : ∀ g, G = some g → B ≤ g) (hs : B ≤ w.heap.size) : Below B w w' :=
  ⟨h.os, h.tape, h.output, h.size, fun k hk => h.block k (by omega) (fun e => by have := hG k e.symm; omega)⟩

section
variable {α : Type} (f : α → List Value) (sz : Nat)

/-- The slice v reads as the records l, of sz cells each. -/
def RdR (w : World) (v : Value) (l : List α) : Prop :=
  ∃ (a : Option Addr) (cap : Nat), v = .slice a l.length cap ∧ l.length ≤ 1073741824 ∧
    (l ≠ [] → ∃ b off, a = some ⟨b, off, none⟩ ∧ b < w.heap.size ∧ ∀ i c, l[i]? = some c → w.rangeAt b (off + i * sz) (f c))
/-- The slice v is a row in a block from B on, with the records l, and may be written. -/
def OwnR (B : Nat) (w : World) (v : Value) (l : List α) : Prop :=
  ∃ (a : Option Addr) (cap : Nat), v = .slice a l.length cap ∧ l.length ≤ 1073741824 ∧
    (l ≠ [] → ∃ g, a = some ⟨g, 0, none⟩ ∧ B ≤ g ∧ g < w.heap.size ∧ (∀ i c, l[i]? = some c → w.rangeAt g (0 + i * sz) (f c)) ∧ w.there g 0 (l.length * sz))
/-- A row of n records in block B that is being filled: those so far. -/
def FillR (n B : Nat) (w wr : World) (done : List α) : Prop :=
  B < wr.heap.size ∧ done.length ≤ n ∧ (∀ i c, done[i]? = some c → wr.rangeAt B (0 + i * sz) (f c)) ∧ wr.there B 0 (n * sz) ∧ Below B w wr
variable {f sz}

theorem ownR_rd {B : Nat} {w : World} {v : Value} {l : List α} (h : OwnR f sz B w v l) : RdR f sz w v l := by
  obtain ⟨a, cap, rfl, hl, h⟩ := h
  refine ⟨a, cap, rfl, hl, fun hne => ?_⟩
  obtain ⟨g, rfl, _, h2, h3, _⟩ := h hne
  exact ⟨g, 0, rfl, h2, h3⟩
theorem rdR_below {C : Nat} {w w' : World} {v : Value} {l : List α} (h : RdR f sz w v l) (hb : Below C w w') (hC : w.heap.size ≤ C) : RdR f sz w' v l := by
  obtain ⟨a, cap, rfl, hl, h⟩ := h
  refine ⟨a, cap, rfl, hl, fun hne => ?_⟩
  obtain ⟨b, off, rfl, h1, h2⟩ := h hne
  exact ⟨b, off, rfl, Nat.lt_of_lt_of_le h1 hb.size, fun i c hc => range_below (h2 i c hc) hb (Nat.lt_of_lt_of_le h1 hC)⟩
theorem ownR_below {B C : Nat} {w w' : World} {v : Value} {l : List α} (h : OwnR f sz B w v l) (hb : Below C w w') (hC : w.heap.size ≤ C) : OwnR f sz B w' v l := by
  obtain ⟨a, cap, rfl, hl, h⟩ := h
  refine ⟨a, cap, rfl, hl, fun hne => ?_⟩
  obtain ⟨g, rfl, h0, h1, h2, h3⟩ := h hne
  exact ⟨g, rfl, h0, Nat.lt_of_lt_of_le h1 hb.size, fun i c hc => range_below (h2 i c hc) hb (Nat.lt_of_lt_of_le h1 hC), there_below h3 hb (Nat.lt_of_lt_of_le h1 hC)⟩
theorem ownR_grown {B : Nat} {G : Option Nat} {w w' : World} {v : Value} {l : List α} (h : OwnR f sz B w v l) (hg : w.grownBy w' G) (hne' : l ≠ [] → v.ownBlock ≠ G) : OwnR f sz B w' v l := by
  obtain ⟨a, cap, rfl, hl, h⟩ := h
  refine ⟨a, cap, rfl, hl, fun hne => ?_⟩
  obtain ⟨g, rfl, h0, h1, h2, h3⟩ := h hne
  exact ⟨g, rfl, h0, Nat.lt_of_lt_of_le h1 hg.size, fun i c hc => range_grown (h2 i c hc) hg h1 (hne' hne), there_grown h3 hg h1 (hne' hne)⟩
theorem rdR_grown {G : Option Nat} {w w' : World} {v : Value} {l : List α} (h : RdR f sz w v l) (hg : w.grownBy w' G) (hG : ∀ g, G = some g → w.heap.size ≤ g) : RdR f sz w' v l := by
  obtain ⟨a, cap, rfl, hl, h⟩ := h
  refine ⟨a, cap, rfl, hl, fun hne => ?_⟩
  obtain ⟨b, off, rfl, h1, h2⟩ := h hne
  exact ⟨b, off, rfl, Nat.lt_of_lt_of_le h1 hg.size, fun i c hc => range_grown (h2 i c hc) hg h1 (fun e => by have := hG b e.symm; omega)⟩
theorem ownR_lt {B : Nat} {w : World} {v : Value} {l : List α} (h : OwnR f sz B w v l) (hne : l ≠ []) : ∃ g, v.ownBlock = some g ∧ B ≤ g ∧ g < w.heap.size := by
  obtain ⟨a, cap, rfl, hl, h⟩ := h
  obtain ⟨g, rfl, h0, h1, _⟩ := h hne
  exact ⟨g, rfl, h0, h1⟩

theorem below_setCells {B : Nat} {w : World} (b : Nat) (hb : B ≤ b) : ∀ (vs : List Value) (o : Nat) (wr : World), Below B w wr → Below B w (wr.setCells b o vs)
  | [], _, _, h => h
  | v :: r, o, wr, h => by rw [World.setCells]; exact below_setCells b hb r (o + 1) _ (h.setCell (show B ≤ (⟨b, o, none⟩ : Addr).block from hb) v)
theorem size_setCells (b : Nat) : ∀ (vs : List Value) (o : Nat) (wr : World), (wr.setCells b o vs).heap.size = wr.heap.size
  | [], _, _ => rfl
  | v :: r, o, wr => by rw [World.setCells, size_setCells b r (o + 1)]; simp [World.setCell]

theorem there_block {w : World} {g n t : Nat} {cur : Array Value} (hg : w.heap[g]? = some (.cells cur t (0, 0))) (hn : n ≤ cur.size) : w.there g 0 n := fun j hj =>
  ⟨by rw [cell_of_row w g (0 + j) cur t (0, 0) hg, Array.getElem?_eq_getElem (by omega)]; rfl, by simp [World.frozen?, hg]⟩

theorem fill_made {w w' : World} {n e : Nat} {xs : List Value} (h : w'.ownsRow w.heap.size e sz (.slice (some ⟨w.heap.size, 0, none⟩) n n) n xs) (hg : w.grownBy w' none) : FillR f sz n w.heap.size w w' [] := by
  rcases h.2 with ⟨h0, _⟩ | ⟨g, cap, cur, hv, _, hh, _, _, hcur, _⟩
  · simp at h0
  · simp only [Value.slice.injEq, Option.some.injEq, Addr.mk.injEq, and_true, true_and] at hv
    obtain ⟨rfl, rfl⟩ := hv
    exact ⟨(Array.getElem?_eq_some_iff.1 hh).1, Nat.zero_le _, by simp, there_block hh (by omega), (Below.refl _ w).grown hg (Nat.le_refl _) (fun k hk => by simp at hk)⟩
theorem fill_below {n B C : Nat} {w wr wr' : World} {done : List α} (h : FillR f sz n B w wr done) (hb : Below C wr wr') (hC : wr.heap.size ≤ C) : FillR f sz n B w wr' done := by
  obtain ⟨h1, h2, h3, h4, h5⟩ := h
  exact ⟨Nat.lt_of_lt_of_le h1 hb.size, h2, fun i c hc => range_below (h3 i c hc) hb (by omega), there_below h4 hb (by omega), h5.trans (hb.mono (by omega))⟩
theorem fill_step {n B : Nat} {w wr : World} {done : List α} (x : α) (h : FillR f sz n B w wr done) (hn : done.length < n) (hf : ∀ c, (f c).length = sz) : FillR f sz n B w (wr.setCells B (done.length * sz) (f x)) (done ++ [x]) := by
  obtain ⟨h1, h2, h3, h4, h5⟩ := h
  have hle : done.length * sz + sz ≤ n * sz := by
    have := Nat.mul_le_mul_right sz (show done.length + 1 ≤ n by omega)
    rw [Nat.add_mul] at this; omega
  refine ⟨by rw [size_setCells]; exact h1, by simp; omega, fun i c hc => ?_, World.there_setCells h4 _ _ _, below_setCells B (Nat.le_refl _) _ _ _ h5⟩
  by_cases hi : i < done.length
  · rw [List.getElem?_append_left hi] at hc
    refine World.rangeAt_setCells_apart (h3 i c hc) _ _ _ (.inr (.inl ?_))
    rw [hf c]
    have := Nat.mul_le_mul_right sz (show i + 1 ≤ done.length by omega)
    rw [Nat.add_mul] at this; omega
  · have hlen : i < (done ++ [x]).length := (List.getElem?_eq_some_iff.1 hc).1
    have hi' : i = done.length := by simp at hlen; omega
    subst hi'
    simp only [List.getElem?_append_right (Nat.le_refl _), Nat.sub_self, List.getElem?_cons_zero, Option.some.injEq] at hc
    subst hc
    rw [Nat.zero_add]
    exact World.rangeAt_setCells_same _ _ _ _ (fun j hj => by
      have := h4 (done.length * sz + j) (by rw [hf] at hj; omega)
      rw [Nat.zero_add] at this; exact this)
theorem fill_own {n B : Nat} {w wr : World} {l : List α} (h : FillR f sz n B w wr l) (hl : l.length = n) (hn : n ≤ 1073741824) : OwnR f sz B wr (.slice (some ⟨B, 0, none⟩) n n) l := by
  obtain ⟨h1, h2, h3, h4, h5⟩ := h
  exact ⟨_, n, by rw [hl], by omega, fun _ => ⟨B, rfl, Nat.le_refl _, h1, h3, by rw [hl]; exact h4⟩⟩
theorem fill_there {n B i : Nat} {w wr : World} {done : List α} (h : FillR f sz n B w wr done) (hi : i < n) : wr.there B (i * sz) sz := fun j hj => by
  have hle := Nat.mul_le_mul_right sz (show i + 1 ≤ n by omega)
  rw [Nat.add_mul] at hle
  have := h.2.2.2.1 (i * sz + j) (by omega)
  rw [Nat.zero_add] at this; exact this

theorem flat_get (hf : ∀ c, (f c).length = sz) : ∀ (l : List α) (i j : Nat) (c : α), l[i]? = some c → j < sz → (l.flatMap f)[i * sz + j]? = (f c)[j]?
  | [], _, _, _, h, _ => by simp at h
  | a :: l, 0, j, c, h, hj => by
    simp at h; subst h
    rw [List.flatMap_cons, List.getElem?_append_left (by rw [hf]; omega)]; simp
  | a :: l, i + 1, j, c, h, hj => by
    simp at h
    rw [List.flatMap_cons, List.getElem?_append_right (by rw [hf, Nat.add_mul]; omega), hf, ← flat_get hf l i j c h hj]
    congr 1
    rw [Nat.add_mul]; omega
theorem flat_len (hf : ∀ c, (f c).length = sz) : ∀ (l : List α), (l.flatMap f).length = l.length * sz
  | [] => by simp
  | a :: l => by rw [List.flatMap_cons, List.length_append, hf, flat_len hf l, List.length_cons, Nat.add_mul]; omega
/-- A row that was appended to is a row of records. -/
theorem ownR_row {B e : Nat} {w : World} {v : Value} {l : List α} (hf : ∀ c, (f c).length = sz) (hl : l.length ≤ 1073741824) (h : w.ownsRow B e sz v l.length (l.flatMap f)) : OwnR f sz B w v l := by
  rcases h.2 with ⟨rfl, h0⟩ | ⟨g, cap, cur, rfl, hb, hg, hcap, _, hcur, htake⟩
  · exact ⟨none, 0, by rw [h0], hl, fun hne => absurd (List.length_eq_zero_iff.1 h0) hne⟩
  · have hle := Nat.mul_le_mul_right sz hcap
    refine ⟨_, cap, rfl, hl, fun _ => ⟨g, rfl, hb, (Array.getElem?_eq_some_iff.1 hg).1, fun i c hc j u hu => ?_, there_block hg (by omega)⟩⟩
    have hj : j < sz := by rw [← hf c]; exact (List.getElem?_eq_some_iff.1 hu).1
    have h2 := flat_get hf l i j c hc hj
    have hlt : i * sz + j < l.length * sz := by
      have := Nat.mul_le_mul_right sz (show i + 1 ≤ l.length from (List.getElem?_eq_some_iff.1 hc).1)
      rw [Nat.add_mul] at this; omega
    rw [← htake, List.getElem?_take, if_pos hlt] at h2
    rw [cell_of_row w g _ cur e (0, 0) hg, Nat.zero_add]
    simpa using h2.trans hu
end
end Go.Proofs.Ytfoabgghlnjjoaa
/-
  Commands as records of eight cells; no function walked but the copying of one.
-/
namespace Go.Proofs.Ytfoabgghlnjjoaa
open Go.RowKit
set_option linter.unusedVariables false

/-- A command. -/
structure Cm where
  k : Int
  s : Int
  t : Int
  l : Int
  q : Int
  i : Int
  p : Nat
  g : ByteArray
/-- Its cells. -/
def Cm.vs (c : Cm) : List Value := [.int .i64 c.k, .int .i64 c.s, .int .i64 c.t, .int .i64 c.l, .int .i64 c.q, .int .i64 c.i, .float .f64 c.p, .string c.g]
theorem Cm.len (c : Cm) : c.vs.length = 8 := rfl
/-- The cells of a command, told one by one. -/
theorem cm_cells {w : World} {b o : Nat} {c : Cm} (h : w.rangeAt b o c.vs) :
    w.cell? ⟨b, o, none⟩ = some (.int .i64 c.k) ∧ w.cell? ⟨b, o + 1, none⟩ = some (.int .i64 c.s) ∧ w.cell? ⟨b, o + 2, none⟩ = some (.int .i64 c.t) ∧ w.cell? ⟨b, o + 3, none⟩ = some (.int .i64 c.l) ∧
    w.cell? ⟨b, o + 4, none⟩ = some (.int .i64 c.q) ∧ w.cell? ⟨b, o + 5, none⟩ = some (.int .i64 c.i) ∧ w.cell? ⟨b, o + 6, none⟩ = some (.float .f64 c.p) ∧ w.cell? ⟨b, o + 7, none⟩ = some (.string c.g) :=
  ⟨h 0 _ rfl, h 1 _ rfl, h 2 _ rfl, h 3 _ rfl, h 4 _ rfl, h 5 _ rfl, h 6 _ rfl, h 7 _ rfl⟩

theorem there1 {w : World} {b o n : Nat} (h : w.there b o n) (j : Nat) (hj : j < n) : ∃ v, w.cell? ⟨b, o + j, none⟩ = some v ∧ w.frozen? ⟨b, o + j, none⟩ = false := by
  obtain ⟨v, hv⟩ := Option.isSome_iff_exists.1 (h j hj).1
  exact ⟨v, hv, (h j hj).2⟩
/-- Eight cells that may be written, told one by one. -/
theorem there8 {w : World} {b o : Nat} (h : w.there b o 8) :
    (∃ v, w.cell? ⟨b, o, none⟩ = some v ∧ w.frozen? ⟨b, o, none⟩ = false) ∧ (∃ v, w.cell? ⟨b, o + 1, none⟩ = some v ∧ w.frozen? ⟨b, o + 1, none⟩ = false) ∧
    (∃ v, w.cell? ⟨b, o + 2, none⟩ = some v ∧ w.frozen? ⟨b, o + 2, none⟩ = false) ∧ (∃ v, w.cell? ⟨b, o + 3, none⟩ = some v ∧ w.frozen? ⟨b, o + 3, none⟩ = false) ∧
    (∃ v, w.cell? ⟨b, o + 4, none⟩ = some v ∧ w.frozen? ⟨b, o + 4, none⟩ = false) ∧ (∃ v, w.cell? ⟨b, o + 5, none⟩ = some v ∧ w.frozen? ⟨b, o + 5, none⟩ = false) ∧
    (∃ v, w.cell? ⟨b, o + 6, none⟩ = some v ∧ w.frozen? ⟨b, o + 6, none⟩ = false) ∧ (∃ v, w.cell? ⟨b, o + 7, none⟩ = some v ∧ w.frozen? ⟨b, o + 7, none⟩ = false) :=
  ⟨there1 h 0 (by omega), there1 h 1 (by omega), there1 h 2 (by omega), there1 h 3 (by omega), there1 h 4 (by omega), there1 h 5 (by omega), there1 h 6 (by omega), there1 h 7 (by omega)⟩

theorem sfl (a : Addr) (x : Nat) (m : Mode) (w : World) : (store a (.float .f64 x) m).run Try.prog w = stored Try.prog w a (.float .f64 x) m := run_store _ w a _ m rfl

theorem toCmd_any (c : Cm) (w : World) :
    Calls Try.prog 8 #[.agg #[.int .i64 c.k, .int .i64 c.s, .int .i64 c.t, .int .i64 c.l, .int .i64 c.q, .int .i64 c.i, .float .f64 c.p, .string c.g]] w fun e w' =>
      e = .returned (.agg #[.int .i64 c.k, .int .i64 c.s, .int .i64 c.t, .int .i64 c.l, .int .i64 c.q, .int .i64 c.i, .float .f64 c.p, .string c.g]) ∧ Below w.heap.size w w' := by
  obtain ⟨k, s, t, l, q, i, p, g⟩ := c
  have hsf := sfl
  simp only
  go_enter Try.func8, Try.ntmps8
  go_wp2_with fail
  go_returns
  refine ⟨rfl, ?_⟩
  go_grown
end Go.Proofs.Ytfoabgghlnjjoaa
