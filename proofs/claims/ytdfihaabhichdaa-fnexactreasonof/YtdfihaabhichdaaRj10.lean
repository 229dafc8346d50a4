/-
  How many levels orders have, as the model counts them: proved by walking the function. (what walks the functions of the model or of the laws)
-/
import Derived.Test.YtdfihaabhichdaaRj09
namespace Go.Proofs.Ytdfihaabhichdaa
open Go.RowKit
set_option linter.unusedVariables false

set_option maxRecDepth 100000 in
set_option maxHeartbeats 1600000 in
theorem l03Levels_any (v : Value) (l : List Od) (w : World) (hr : RdR Od.vs 6 w v l) (hn : l.length ≤ 1000) :
    Calls Try.prog 21 #[v] w fun e w' => e = .returned (.int .i64 (nlev l : Nat)) ∧ w.grownBy w' none := by
  obtain ⟨a, cap, rfl, hlen, hc⟩ := hr
  have hcell : ∀ (k : Nat) (c : Od), l[k]? = some c → ∃ b off, a = some ⟨b, off, none⟩ ∧ b < w.heap.size ∧ w.rangeAt b (off + k * 6) c.vs := by
    intro k c hk
    obtain ⟨b, off, h1, h2, h3⟩ := hc (by intro h; rw [h] at hk; simp at hk)
    exact ⟨b, off, h1, h2, h3 k c hk⟩
  have HC := hide hcell
  clear hcell hc
  go_enter Try.func21, Try.ntmps21
  go_wp2_with fail
  go_loopw [3, 4] (fun nv iv wr => ∃ (i n : Nat), nv = .int .i64 n ∧ i ≤ l.length ∧ iv = .int .i64 i ∧ Hid (n = nlev (l.take i)) ∧ n ≤ i ∧ w.grownBy wr none) (fun _ iv _ => l.length - (intOf iv).toNat)
  case atStart => exact ⟨0, 0, rfl, Nat.zero_le _, rfl, by simp [Hid, nlev, nlevR], Nat.le_refl _, World.grownBy.refl _ _⟩
  case round =>
    obtain ⟨i, n, rfl, hi, rfl, hnl, hni, hg⟩ := hrel
    have HG := hide hg
    clear hg
    by_cases hlt : i < l.length
    · obtain ⟨c, hkc⟩ : ∃ c, l[i]? = some c := ⟨_, List.getElem?_eq_getElem hlt⟩
      obtain ⟨b, off, rfl, hb, hcl⟩ := unhide HC i c hkc
      have HKC := hide hkc
      have HCL := hide hcl
      have hlt' : (i : Int) < l.length := by omega
      have HNN : Hid (nlev (l.take (i + 1)) = n + (freshB c (l.take i)).toNat) := by
        show _ = _
        rw [takeR l i c hkc, nlev_fresh, ← unhide hnl]
      clear hkc hcl hnl
      go_wp2_with fail
      go_loopw [5, 6] (fun fv kv wq => ∃ (k : Nat) (fb : Bool), fv = .bool fb ∧ k ≤ i ∧ kv = .int .i64 k ∧ Hid (fb = freshB c (l.take k)) ∧ w.grownBy wq none) (fun _ kv _ => i - (intOf kv).toNat)
      case atStart => exact ⟨0, true, rfl, Nat.zero_le _, rfl, rfl, unhide HG⟩
      case round =>
        obtain ⟨k, fb, rfl, hk, rfl, hfb, hg⟩ := hrel
        have HGQ := hide hg
        clear hg
        by_cases hki : k < i
        · obtain ⟨y, hky⟩ : ∃ y, l[k]? = some y := ⟨_, List.getElem?_eq_getElem (by omega)⟩
          obtain ⟨b', off', hbe, hb', hcl'⟩ := unhide HC k y hky
          simp only [Option.some.injEq, Addr.mk.injEq, and_true] at hbe
          obtain ⟨rfl, rfl⟩ := hbe
          have HFN : Hid (freshB c (l.take (k + 1)) = (fb && difB c y)) := by
            show _ = _
            rw [takeR l k y hky, unhide hfb, freshB, List.all_append]; simp [freshB]
          obtain ⟨-, e1, e2, -⟩ := od_cells (range_grown (unhide HCL) (unhide HGQ) hb (by simp))
          obtain ⟨-, d1, d2, -⟩ := od_cells (range_grown hcl' (unhide HGQ) hb (by simp))
          have hki' : (k : Int) < i := by omega
          have hkl' : (k : Int) < l.length := by omega
          have hfin : ∀ (fb' : Bool), fb' = (fb && difB c y) → Hid (fb' = freshB c (l.take (k + 1))) := fun fb' h => by show _ = _; rw [h, unhide HFN]
          have HFIN := hide hfin
          clear hky hcl' hfin
          cases fb
          · go_wp2_with fail
            go_quiet (fail)
            go_wp2_with fail
            go_roundw
            case rel => exact ⟨k + 1, false, rfl, by omega, by go_num, unhide HFIN _ rfl, gr_drewM (unhide HGQ) rfl rfl rfl rfl⟩
            case measure => simp [intOf]; omega
          · by_cases h1 : y.side = c.side
            · have h1' : (y.side != c.side) = false := by simpa using h1
              by_cases h2 : y.ticks = c.ticks
              · have hd : (true && difB c y) = false := by simp [difB, h1, h2]
                go_wp2_with fail
                go_quiet (fail)
                go_wp2_with fail
                go_roundw
                case rel => exact ⟨k + 1, false, by first | rfl | simp [h2], by omega, by go_num, unhide HFIN _ hd.symm, gr_drewM (unhide HGQ) rfl rfl rfl rfl⟩
                case measure => simp [intOf]; omega
              · have hd : (true && difB c y) = true := by simp [difB, h2]
                go_wp2_with fail
                go_quiet (fail)
                go_wp2_with fail
                go_roundw
                case rel => exact ⟨k + 1, true, by first | rfl | simp [h2], by omega, by go_num, unhide HFIN _ hd.symm, gr_drewM (unhide HGQ) rfl rfl rfl rfl⟩
                case measure => simp [intOf]; omega
            · have h1' : (y.side != c.side) = true := by simpa using h1
              have hd : (true && difB c y) = true := by simp [difB, h1]
              go_wp2_with fail
              go_quiet (fail)
              go_wp2_with fail
              go_roundw
              case rel => exact ⟨k + 1, true, by first | rfl | simp, by omega, by go_num, unhide HFIN _ hd.symm, gr_drewM (unhide HGQ) rfl rfl rfl rfl⟩
              case measure => simp [intOf]; omega
        · obtain rfl : k = i := by omega
          have HF := hfb
          cases fb
          · have HE : Hid (nlev (l.take (k + 1)) = n) := by show _ = _; rw [unhide HNN, ← unhide HF]; rfl
            clear hfb
            go_wp2_with fail
            exact ⟨⟨k + 1, n, rfl, by omega, by go_num, (unhide HE).symm, by omega, unhide HGQ⟩, by simp [intOf]; omega⟩
          · have HE : Hid (nlev (l.take (k + 1)) = n + 1) := by show _ = _; rw [unhide HNN, ← unhide HF]; rfl
            clear hfb
            go_wp2_with fail
            exact ⟨⟨k + 1, n + 1, by go_num, by omega, by go_num, (unhide HE).symm, by omega, unhide HGQ⟩, by simp [intOf]; omega⟩
    · go_wp2_with fail
      go_ret
      have h := unhide hnl
      rw [List.take_of_length_le (by omega)] at h
      subst h
      exact ⟨rfl, unhide HG⟩
end Go.Proofs.Ytdfihaabhichdaa
namespace Go.Proofs.Ytdfihaabhichdaa
open Go.RowKit
set_option linter.unusedVariables false

def allR (next : Int) : Int → List Od → Bool
  | _, [] => true
  | last, o :: r => ordB o && decide (last < o.id) && decide (o.id < next) && allR next o.id r
theorem allR_rising {next : Int} : ∀ {l : List Od} {last : Int}, allR next last l = true → Rising l ∧ ∀ o ∈ l, last < o.id
  | [], _, _ => ⟨by simp [Rising], by simp⟩
  | a :: r, last, h => by
    simp only [allR, Bool.and_eq_true, decide_eq_true_eq] at h
    obtain ⟨ih1, ih2⟩ := allR_rising h.2
    refine ⟨List.pairwise_cons.2 ⟨ih2, ih1⟩, fun o ho => ?_⟩
    rcases List.mem_cons.1 ho with rfl | ho
    · exact h.1.1.2
    · have := ih2 o ho; have := h.1.1.2; omega
theorem allR_sides {next : Int} : ∀ {l : List Od} {last : Int}, allR next last l = true → ∀ o ∈ l, ordB o = true
  | [], _, _ => by simp
  | a :: r, last, h => by
    simp only [allR, Bool.and_eq_true, decide_eq_true_eq] at h
    intro o ho
    rcases List.mem_cons.1 ho with rfl | ho
    · exact h.1.1.1
    · exact allR_sides h.2 o ho
/-- No bid meets an ask. -/
def xB (a b : Od) : Bool := !(decide (a.side = 1) && decide (b.side = 2)) || decide (a.ticks < b.ticks)
def noX (l : List Od) : Bool := l.all fun a => l.all fun b => xB a b
theorem noX_iff (l : List Od) : noX l = true ↔ ∀ a ∈ l, a.side = 1 → ∀ b ∈ l, b.side = 2 → a.ticks < b.ticks := by
  simp only [noX, List.all_eq_true, xB, Bool.or_eq_true, Bool.not_eq_true', Bool.and_eq_false_iff, decide_eq_false_iff_not, decide_eq_true_eq]
  constructor
  · intro h a ha h1 b hb h2
    rcases h a ha b hb with (h3 | h3) | h3
    · exact absurd h1 h3
    · exact absurd h2 h3
    · exact h3
  · intro h a ha b hb
    by_cases h1 : a.side = 1
    · by_cases h2 : b.side = 2
      · exact .inr (h a ha h1 b hb h2)
      · exact .inl (.inr h2)
    · exact .inl (.inl h1)
theorem noX_none1 {l : List Od} (h : ∀ o ∈ l, o.side ≠ 1) : noX l = true := (noX_iff l).2 fun a ha h1 => absurd h1 (h a ha)
theorem noX_none2 {l : List Od} (h : ∀ o ∈ l, o.side ≠ 2) : noX l = true := (noX_iff l).2 fun a ha h1 b hb h2 => absurd h2 (h b hb)
theorem noX_fronts {l : List Od} {i j : Nat} {a b : Od} (ha : IsFront true l 1 i a) (hb : IsFront false l 2 j b) : noX l = decide (a.ticks < b.ticks) := by
  rw [Bool.eq_iff_iff, noX_iff, decide_eq_true_eq]
  constructor
  · exact fun h => h a (List.mem_of_getElem? ha.1) ha.2.1 b (List.mem_of_getElem? hb.1) hb.2.1
  · intro h x hx h1 y hy h2
    obtain ⟨m, hm⟩ := List.mem_iff_getElem?.1 hx
    obtain ⟨n, hn⟩ := List.mem_iff_getElem?.1 hy
    have hxa : x.ticks ≤ a.ticks := by
      by_cases hmi : m = i
      · subst hmi; rw [ha.1] at hm; obtain rfl := Option.some.inj hm; exact Int.le_refl _
      · rcases ha.2.2 m x hm h1 hmi with h3 | h3
        · simp only [bt] at h3; omega
        · omega
    have hyb : b.ticks ≤ y.ticks := by
      by_cases hnj : n = j
      · subst hnj; rw [hb.1] at hn; obtain rfl := Option.some.inj hn; exact Int.le_refl _
      · rcases hb.2.2 n y hn h2 hnj with h3 | h3
        · simp only [bt] at h3; omega
        · omega
    omega
theorem frPre_end {l : List Od} {sd : Int} {k : Int} (h : FrPre l sd l.length k) : (k = -1 ∧ ∀ o ∈ l, o.side ≠ sd) ∨ ∃ (i : Nat) (o : Od), k = i ∧ i < l.length ∧ IsFront (decide (sd = 1)) l sd i o := by
  rcases h with ⟨rfl, h⟩ | ⟨i, o, rfl, h1, h2, h3, h4⟩
  · refine .inl ⟨rfl, fun o ho => ?_⟩
    obtain ⟨j, hj⟩ := List.mem_iff_getElem?.1 ho
    exact h j o (List.getElem?_eq_some_iff.1 hj).1 hj
  · exact .inr ⟨i, o, rfl, h1, h2, h3, fun j o' ho hs hne => h4 j o' (List.getElem?_eq_some_iff.1 ho).1 ho hs hne⟩

/-- A book is right, as the model asks it. -/
def okS (next : Int) (l : List Od) : Bool := betB next 1 1000000 && decide (l.length ≤ 20) && allR next 0 l && (decide (nlev l ≤ 8) && noX l)
end Go.Proofs.Ytdfihaabhichdaa
