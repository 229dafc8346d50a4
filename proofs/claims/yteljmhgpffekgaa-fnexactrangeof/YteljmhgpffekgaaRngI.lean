/-
  The range of a row of floats, by the program and by the model: both functions walked.
-/
import Derived.Test.YteljmhgpffekgaaRngW
namespace Go.Proofs.Yteljmhgpffekgaa
open Go.RowKit

/-- What a run over the list holds: the least, the greatest, the code. -/
def RgI (o : Option (Nat × Nat)) (a b : Nat) (c : Int) : Prop := (o = none → a = 0 ∧ b = 0 ∧ c = 6) ∧ ∀ p q, o = some (p, q) → a = p ∧ b = q ∧ c = 0
/-- What is answered. -/
def rngA (o : Option (Nat × Nat)) : Nat := (o.map Prod.fst).getD 0
def rngB (o : Option (Nat × Nat)) : Nat := (o.map Prod.snd).getD 0
def rngC (o : Option (Nat × Nat)) : Int := if o = none then 6 else 0
theorem rgI_eq {o : Option (Nat × Nat)} {a b : Nat} {c : Int} (h : RgI o a b c) : a = rngA o ∧ b = rngB o ∧ c = rngC o := by
  cases o with
  | none => exact h.1 rfl
  | some p => obtain ⟨p, q⟩ := p; exact h.2 p q rfl
theorem rgI_none : RgI none 0 0 6 := ⟨fun _ => ⟨rfl, rfl, rfl⟩, fun p q h => by simp at h⟩
theorem rgI_some (a b : Nat) : RgI (some (a, b)) a b 0 := ⟨fun h => by simp at h, fun p q h => by simp at h; exact ⟨h.1, h.2, rfl⟩⟩

set_option maxRecDepth 100000 in
set_option maxHeartbeats 1000000 in
theorem implRange_any (v : Value) (l : List Nat) (w : World) (hr : RdF w v l) (hf : Fls l) (hl : l.length ≤ 4096) :
    Calls Try.prog 12 #[v] w fun e w' => e = .returned (.tuple #[.float .f64 (rngA (rngO l)), .float .f64 (rngB (rngO l)), .int .i64 (rngC (rngO l))]) ∧ w' = w := by
  obtain ⟨a, cap, rfl, _, hc⟩ := hr
  have HC := hide hc
  have HF := hide hf
  clear hc hf
  have hl' : (l.length : Int) ≤ 4096 := by omega
  go_enter Try.func12, Try.ntmps12
  go_wp2_with fail
  go_loopw [5, 6, 7, 15] (fun av bv cv iv wr => ∃ (k p q : Nat) (c : Int), k ≤ l.length ∧ av = .float .f64 p ∧ bv = .float .f64 q ∧ cv = .int .i64 c ∧ iv = .int .i64 k ∧ RgI (rngO (l.take k)) p q c ∧ wr = w) (fun _ _ _ iv _ => l.length - (intOf iv).toNat)
  case atStart => exact ⟨0, 0, 0, 6, Nat.zero_le _, rfl, rfl, rfl, rfl, rgI_none, rfl⟩
  case round =>
    obtain ⟨k, p, q, c, hk, rfl, rfl, rfl, rfl, hI, rfl⟩ := hrel
    by_cases hlt : k < l.length
    · obtain ⟨b, off, rfl, hc⟩ := unhide HC (by intro h; rw [h] at hlt; simp at hlt)
      have h1 := hc k hlt
      clear hc
      have hlt' : (k : Int) < l.length := by omega
      have hx := fls_get (unhide HF) k
      have hok := rngO_ok (fls_take (unhide HF) k)
      have hs := rngO_snoc (l.take k) (l.getD k 0)
      rw [← takeF_get l k hlt] at hs
      generalize l.getD k 0 = x at h1 hx hs
      generalize rngO (l.take k) = o at hI hok hs
      have HX := hide hx
      have HS := hide hs
      clear hx hs
      cases hn : nanB x with
      | true =>
        have HI := hide hI
        have HN := hide hn
        have hnn : ∀ W, Calls Try.prog 35 #[.float .f64 x] W fun e w' => e = .returned (.bool true) ∧ w' = W := fun W => hn ▸ isNaN_any x W
        have HNN := hide hnn
        clear hI hn hok hnn
        go_wp2_with fail
        refine (unhide HNN _).mono ?_
        rintro e w2 ⟨rfl, rfl⟩
        go_wp2_with fail
        go_roundw
        case rel => exact ⟨k + 1, p, q, c, by omega, rfl, rfl, rfl, by go_num, by rw [unhide HS, rngStep_nan (unhide HN)]; exact unhide HI, trivial⟩
        case measure => simp [intOf]; omega
      | false =>
        have HN := hide hn
        have hnn : ∀ W, Calls Try.prog 35 #[.float .f64 x] W fun e w' => e = .returned (.bool false) ∧ w' = W := fun W => hn ▸ isNaN_any x W
        have HNN := hide hnn
        clear hn hnn
        cases o with
        | none =>
          obtain ⟨rfl, rfl, rfl⟩ := hI.1 rfl
          clear hI hok
          go_wp2_with fail
          refine (unhide HNN _).mono ?_
          rintro e w2 ⟨rfl, rfl⟩
          go_wp2_with fail
          go_roundw
          case rel => exact ⟨k + 1, x, x, 0, by omega, rfl, rfl, rfl, by go_num, by rw [unhide HS, rngStep_none (unhide HN)]; exact rgI_some x x, trivial⟩
          case measure => simp [intOf]; omega
        | some pq =>
          obtain ⟨p', q'⟩ := pq
          obtain ⟨rfl, rfl, rfl⟩ := hI.2 p' q' rfl
          obtain ⟨hp, hq, _, _⟩ := hok p q rfl
          have RX := hide (fun W => rankOf_any x W (unhide HX))
          have RP := hide (fun W => rankOf_any p W hp)
          have RQ := hide (fun W => rankOf_any q W hq)
          have HS2 : Hid (rngO (l.take (k + 1)) = some (if rankF x < rankF p then x else p, if rankF q < rankF x then x else q)) := (unhide HS).trans (rngStep_some (unhide HN))
          clear hI hok hp hq
          generalize rankF x = rx at RX HS2
          generalize rankF p = rp at RP HS2
          generalize rankF q = rq at RQ HS2
          by_cases c1 : rx < rp <;> by_cases c2 : rq < rx
          all_goals
            have e2 := unhide HS2
            simp only [c1, c2, if_true, if_false] at e2
            have HE := hide e2
            clear e2 HS2
            go_wp2_with fail
            refine (unhide HNN _).mono ?_
            rintro e w2 ⟨rfl, rfl⟩
            go_wp2_with fail
            refine (unhide RX _).mono ?_
            rintro e w2 ⟨rfl, rfl⟩
            go_wp2_with fail
            refine (unhide RP _).mono ?_
            rintro e w2 ⟨rfl, rfl⟩
            go_wp2_with fail
            refine (unhide RX _).mono ?_
            rintro e w2 ⟨rfl, rfl⟩
            go_wp2_with fail
            refine (unhide RQ _).mono ?_
            rintro e w2 ⟨rfl, rfl⟩
            go_wp2_with fail
            go_roundw
            case rel => exact ⟨k + 1, _, _, 0, by omega, rfl, rfl, rfl, by go_num, by rw [unhide HE]; exact rgI_some _ _, trivial⟩
            case measure => simp [intOf]; omega
    · have HI := hide hI
      clear hI
      go_wp2_with fail
      go_returns
      have hs := unhide HI
      rw [List.take_of_length_le (by omega)] at hs
      obtain ⟨rfl, rfl, rfl⟩ := rgI_eq hs
      exact ⟨rfl, rfl⟩
end Go.Proofs.Yteljmhgpffekgaa
