/-
  The reason why a command is refused, by the program: proved by walking the function, kind by kind.
-/
import Derived.Test.YthmgkabpcjkieaaVj18
namespace Go.Proofs.Ythmgkabpcjkieaa
open Go.RowKit
set_option linter.unusedVariables false

end Go.Proofs.Ythmgkabpcjkieaa
namespace Go.Proofs.Ythmgkabpcjkieaa
open Go.RowKit
set_option linter.unusedVariables false

/-- The reason why a command is refused over a right book. -/
def refR (next : Int) (l : List Od) (c : Cm) : Int :=
  if c.k = 1 then (if sameC ⟨1, c.s, c.t, c.l, c.q, 0, c.p, c.g⟩ c = true then newR next l c else 2)
  else if c.k = 2 then (if sameC ⟨2, 0, 0, 0, 0, c.i, 0, ⟨#[]⟩⟩ c = true then idR l c.i else 2)
  else if c.k = 3 then (if sameC ⟨3, 0, 0, 0, c.q, c.i, 0, ⟨#[]⟩⟩ c = true then redR l c.i c.q else 2)
  else if c.k = 4 then (if sameC ⟨4, 0, 0, 0, 0, 0, 0, ⟨#[]⟩⟩ c = true then 0 else 2)
  else 1
end Go.Proofs.Ythmgkabpcjkieaa
namespace Go.Proofs.Ythmgkabpcjkieaa
open Go.RowKit
set_option linter.unusedVariables false

set_option maxHeartbeats 400000 in
theorem l04Rests_any (t : Int) (w : World) :
    Calls Try.prog 51 #[.int .i64 t] w fun e w' => e = .returned (.bool (restB t)) ∧ w' = w := by
  by_cases h1 : t = 1
  · subst h1
    go_enter Try.func51, Try.ntmps51
    go_wp2_with fail
    go_ret
    exact ⟨rfl, rfl⟩
  have b1 : (t == 1) = false := by rw [beq_eq_false_iff_ne]; exact h1
  have HK : Hid (restB t = (t == 5)) := by
    show _ = _
    by_cases h5 : t = 5 <;> simp [restB, h1, h5]
  clear h1
  go_enter Try.func51, Try.ntmps51
  go_wp2_with fail
  go_ret
  exact ⟨ret_bool (unhide HK).symm, rfl⟩
/-- Whether an order of a side and a price trades with another one. -/
def crossS (sd tk : Int) (o : Od) : Bool := if tk = 0 then true else if sd = 1 then decide (o.ticks ≤ tk) else decide (tk ≤ o.ticks)
set_option maxHeartbeats 400000 in
theorem l04Crosses_any (sd tk : Int) (o : Od) (w : World) :
    Calls Try.prog 87 #[.int .i64 sd, .int .i64 tk, .agg #[.int .i64 o.id, .int .i64 o.side, .int .i64 o.ticks, .int .i64 o.left, .int .i64 o.life, .string o.tag]] w fun e w' => e = .returned (.bool (crossS sd tk o)) ∧ Below w.heap.size w w' := by
  obtain ⟨id, side, ticks, left, life, tag⟩ := o
  simp only
  by_cases h0 : tk = 0
  · subst h0
    go_enter Try.func87, Try.ntmps87
    go_wp2_with fail
    go_ret
    exact ⟨rfl, by go_grown⟩
  have b0 : (tk == 0) = false := by rw [beq_eq_false_iff_ne]; exact h0
  by_cases h1 : sd = 1
  · subst h1
    have HK : Hid (crossS 1 tk ⟨id, side, ticks, left, life, tag⟩ = decide (ticks ≤ tk)) := by show _ = _; simp [crossS, h0]
    clear h0
    go_enter Try.func87, Try.ntmps87
    go_wp2_with fail
    go_ret
    exact ⟨ret_bool (unhide HK).symm, by go_grown⟩
  have b1 : (sd == 1) = false := by rw [beq_eq_false_iff_ne]; exact h1
  have HK : Hid (crossS sd tk ⟨id, side, ticks, left, life, tag⟩ = decide (tk ≤ ticks)) := by show _ = _; simp [crossS, h0, h1]
  clear h0 h1
  go_enter Try.func87, Try.ntmps87
  go_wp2_with fail
  go_ret
  exact ⟨ret_bool (unhide HK).symm, by go_grown⟩
set_option maxRecDepth 100000 in
set_option maxHeartbeats 800000 in
theorem l04Find_any (v : Value) (l : List Od) (id : Int) (w : World) (hr : RdR Od.vs 6 w v l) :
    Calls Try.prog 46 #[v, .int .i64 id] w fun e w' => e = .returned (.int .i64 (plc l id)) ∧ Below w.heap.size w w' := by
  obtain ⟨a, cap, rfl, hlen, hc⟩ := hr
  have hcell : ∀ (k : Nat) (c : Od), l[k]? = some c → ∃ b off, a = some ⟨b, off, none⟩ ∧ b < w.heap.size ∧ w.rangeAt b (off + k * 6) c.vs := by
    intro k c hk
    obtain ⟨b, off, h1, h2, h3⟩ := hc (by intro h; rw [h] at hk; simp at hk)
    exact ⟨b, off, h1, h2, h3 k c hk⟩
  have HC := hide hcell
  clear hcell hc
  go_enter Try.func46, Try.ntmps46
  go_wp2_with fail
  go_loopw [5] (fun iv wr => ∃ (k : Nat), k ≤ l.length ∧ iv = .int .i64 k ∧ Hid (plc l id = plcF id (l.drop k) k) ∧ Below w.heap.size w wr) (fun iv _ => l.length - (intOf iv).toNat)
  case atStart => exact ⟨0, Nat.zero_le _, rfl, rfl, Below.refl _ _⟩
  case round =>
    obtain ⟨k, hk, rfl, hpl, hbel⟩ := hrel
    have HB := hide hbel
    clear hbel
    by_cases hlt : k < l.length
    · obtain ⟨c, hkc⟩ : ∃ c, l[k]? = some c := ⟨_, List.getElem?_eq_getElem hlt⟩
      have HP : Hid (plc l id = if c.id = id then (k : Int) else plcF id (l.drop (k + 1)) (k + 1)) := by
        have := unhide hpl
        rw [drop_get hkc] at this
        exact this
      obtain ⟨b, off, rfl, hb, hcl⟩ := unhide HC k c hkc
      obtain ⟨g0, g1, g2, g3, g4, g5⟩ := od_cells (range_below hcl (unhide HB) hb)
      have hlt' : (k : Int) < l.length := by omega
      clear hkc hcl hb hpl
      by_cases hid : c.id = id
      · have hb : (c.id == id) = true := by simpa using hid
        have HK : Hid (plc l id = k) := by have := unhide HP; rw [if_pos hid] at this; exact this
        clear hid
        go_wp2_with fail
        go_ret
        exact ⟨ret_int (unhide HK).symm, unhide HB⟩
      · have hb : (c.id == id) = false := by simpa using hid
        have HK : Hid (plc l id = plcF id (l.drop (k + 1)) (k + 1)) := by have := unhide HP; rw [if_neg hid] at this; exact this
        clear hid
        go_wp2_with fail
        go_roundw
        case rel => exact ⟨k + 1, by omega, by go_num, unhide HK, unhide HB⟩
        case measure => simp [intOf]; omega
    · have HK : Hid (plc l id = -1) := by
        have h := unhide hpl
        rw [List.drop_of_length_le (by omega)] at h
        exact h
      go_wp2_with fail
      go_ret
      exact ⟨ret_int (unhide HK).symm, unhide HB⟩
end Go.Proofs.Ythmgkabpcjkieaa
