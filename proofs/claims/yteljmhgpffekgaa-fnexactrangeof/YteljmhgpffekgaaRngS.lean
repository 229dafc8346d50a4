/-
  The range of a row of floats by the model, walked.
-/
import Derived.Test.YteljmhgpffekgaaRngI
namespace Go.Proofs.Yteljmhgpffekgaa
open Go.RowKit

/-- What the model's run over the list holds: the least, the greatest, how many. -/
def RgS (o : Option (Nat × Nat)) (a b : Nat) (n : Nat) : Prop := (o = none → a = 0 ∧ b = 0 ∧ n = 0) ∧ ∀ p q, o = some (p, q) → a = p ∧ b = q ∧ 0 < n
theorem rgS_none : RgS none 0 0 0 := ⟨fun _ => ⟨rfl, rfl, rfl⟩, fun p q h => by simp at h⟩
theorem rgS_some (a b n : Nat) (hn : 0 < n) : RgS (some (a, b)) a b n := ⟨fun h => by simp at h, fun p q h => by simp at h; exact ⟨h.1, h.2, hn⟩⟩

set_option maxRecDepth 100000 in
set_option maxHeartbeats 1000000 in
theorem specRange_any (v : Value) (l : List Nat) (w : World) (hr : RdF w v l) (hf : Fls l) (hl : l.length ≤ 4096) :
    Calls Try.prog 29 #[v] w fun e w' => e = .returned (.tuple #[.float .f64 (rngA (rngO l)), .float .f64 (rngB (rngO l)), .int .i64 (rngC (rngO l))]) ∧ w' = w := by
  obtain ⟨a, cap, rfl, _, hc⟩ := hr
  have HC := hide hc
  have HF := hide hf
  clear hc hf
  have hl' : (l.length : Int) ≤ 4096 := by omega
  go_enter Try.func29, Try.ntmps29
  go_wp2_with fail
  go_loopw [5, 6, 7, 8] (fun av bv nv iv wr => ∃ (k p q n : Nat), k ≤ l.length ∧ n ≤ k ∧ av = .float .f64 p ∧ bv = .float .f64 q ∧ nv = .int .i64 n ∧ iv = .int .i64 k ∧ RgS (rngO (l.take k)) p q n ∧ wr = w) (fun _ _ _ iv _ => l.length - (intOf iv).toNat)
  case atStart => exact ⟨0, 0, 0, 0, Nat.zero_le _, Nat.zero_le _, rfl, rfl, rfl, rfl, rgS_none, rfl⟩
  case round =>
    obtain ⟨k, p, q, n, hk, hnk, rfl, rfl, rfl, rfl, hI, rfl⟩ := hrel
    by_cases hlt : k < l.length
    · obtain ⟨b, off, rfl, hc⟩ := unhide HC (by intro h; rw [h] at hlt; simp at hlt)
      have h1 := hc k hlt
      clear hc
      have hlt' : (k : Int) < l.length := by omega
      have hx := fls_get (unhide HF) k
      have hok := rngO_ok (fls_take (unhide HF) k)
      have hs := rngO_snoc (l.take k) (l.getD k 0)
      rw [← takeF_get l k hlt] at hs
      generalize l.getD k 0 = x at h1 hx hs
      generalize rngO (l.take k) = o at hI hok hs
      have HX := hide hx
      have HS := hide hs
      clear hx hs
      cases hn : nanB x with
      | true =>
        have HI := hide hI
        have HN := hide hn
        have h' : (FloatKind.f64.format.order x x != some Ordering.eq) = true := hn
        clear hI hn hok
        go_wp2_with fail
        go_roundw
        case rel => exact ⟨k + 1, p, q, n, by omega, by omega, rfl, rfl, rfl, by go_num, by rw [unhide HS, rngStep_nan (unhide HN)]; exact unhide HI, trivial⟩
        case measure => simp [intOf]; omega
      | false =>
        have HN := hide hn
        have h' : (FloatKind.f64.format.order x x != some Ordering.eq) = false := hn
        clear hn
        cases o with
        | none =>
          obtain ⟨rfl, rfl, rfl⟩ := hI.1 rfl
          clear hI hok
          go_wp2_with fail
          go_roundw
          case rel => exact ⟨k + 1, x, x, 1, by omega, by omega, rfl, rfl, by go_num, by go_num, by rw [unhide HS, rngStep_none (unhide HN)]; exact rgS_some x x 1 (by omega), trivial⟩
          case measure => simp [intOf]; omega
        | some pq =>
          obtain ⟨p', q'⟩ := pq
          obtain ⟨rfl, rfl, hn0⟩ := hI.2 p' q' rfl
          have hn0' : (0 : Int) < n := by omega
          have hnk' : (n : Int) ≤ k := by omega
          obtain ⟨hp, hq, np, nq⟩ := hok p q rfl
          have RP := hide (fun W => less_rank x p (unhide HX) hp (unhide HN) np ▸ l07Less_any x p W (unhide HN) np)
          have RQ := hide (fun W => less_rank q x hq (unhide HX) nq (unhide HN) ▸ l07Less_any q x W nq (unhide HN))
          have HS2 : Hid (rngO (l.take (k + 1)) = some (if rankF x < rankF p then x else p, if rankF q < rankF x then x else q)) := (unhide HS).trans (rngStep_some (unhide HN))
          clear hI hok hp hq np nq hn0
          generalize rankF x = rx at RP RQ HS2
          generalize rankF p = rp at RP HS2
          generalize rankF q = rq at RQ HS2
          by_cases c1 : rx < rp <;> by_cases c2 : rq < rx
          all_goals
            have e2 := unhide HS2
            simp only [c1, c2, if_true, if_false] at e2
            have HE := hide e2
            clear e2 HS2
            have rp := unhide RP
            have rq := unhide RQ
            simp only [c1, c2, decide_true, decide_false] at rp rq
            have HRP := hide rp
            have HRQ := hide rq
            clear rp rq RP RQ
            go_wp2_with fail
            refine (unhide HRP _).mono ?_
            rintro e w2 ⟨rfl, rfl⟩
            go_wp2_with fail
            refine (unhide HRQ _).mono ?_
            rintro e w2 ⟨rfl, rfl⟩
            go_wp2_with fail
            go_roundw
            case rel => exact ⟨k + 1, _, _, n + 1, by omega, by omega, rfl, rfl, by go_num, by go_num, by rw [unhide HE]; exact rgS_some _ _ _ (by omega), trivial⟩
            case measure => simp [intOf]; omega
    · have hs := hI
      rw [List.take_of_length_le (by omega)] at hs
      cases ho : rngO l with
      | none =>
        obtain ⟨rfl, rfl, rfl⟩ := hs.1 ho
        have HO := hide ho
        clear hI hs ho
        go_wp2_with fail
        go_returns
        exact ⟨by rw [unhide HO]; rfl, rfl⟩
      | some pq =>
        obtain ⟨p', q'⟩ := pq
        obtain ⟨rfl, rfl, hn0⟩ := hs.2 p' q' ho
        have hn0' : (0 : Int) < n := by omega
        have hnk' : (n : Int) ≤ k := by omega
        have HO := hide ho
        clear hI hs ho hn0
        go_wp2_with fail
        go_returns
        exact ⟨by rw [unhide HO]; rfl, rfl⟩
theorem implRange_long (v : Value) (l : List Nat) (w : World) (hr : RdF w v l) (hl : 4096 < l.length) :
    Calls Try.prog 12 #[v] w fun e w' => e = .returned (.tuple #[.float .f64 0, .float .f64 0, .int .i64 2]) ∧ w' = w := by
  obtain ⟨a, cap, rfl, _, hc⟩ := hr
  clear hc
  have hl' : (4096 : Int) < l.length := by omega
  go_enter Try.func12, Try.ntmps12
  go_wp2_with fail
  go_returns
  exact ⟨rfl, rfl⟩
theorem specRange_long (v : Value) (l : List Nat) (w : World) (hr : RdF w v l) (hl : 4096 < l.length) :
    Calls Try.prog 29 #[v] w fun e w' => e = .returned (.tuple #[.float .f64 0, .float .f64 0, .int .i64 2]) ∧ w' = w := by
  obtain ⟨a, cap, rfl, _, hc⟩ := hr
  clear hc
  have hl' : (4096 : Int) < l.length := by omega
  go_enter Try.func29, Try.ntmps29
  go_wp2_with fail
  go_returns
  exact ⟨rfl, rfl⟩
end Go.Proofs.Yteljmhgpffekgaa
