/-
  The command of a line's words, as a function of them; no function walked.
-/
import Derived.Test.YtjjopdkbdebfoaaDoorPriT
import Derived.Test.YtjjopdkbdebfoaaDoorCmB
namespace Go.Proofs.YtjjopdkbdebfoaaDoor
open Go.RowKit
set_option linter.unusedVariables false

/-- A command as a value. -/
def cmA (c : Cm) : Value := .agg #[.int .i64 c.k, .int .i64 c.s, .int .i64 c.t, .int .i64 c.l, .int .i64 c.q, .int .i64 c.i, .float .f64 c.p, .string c.g]
def zC : Cm := ⟨0, 0, 0, 0, 0, 0, 0, ⟨#[]⟩⟩
def wB (ws : List ByteArray) (i : Nat) : ByteArray := ws.getD i ⟨#[]⟩
def wL (ws : List ByteArray) (i : Nat) : List UInt8 := (wB ws i).data.toList
def kEnd : List UInt8 := [101, 110, 100]
def kCan : List UInt8 := [99, 97, 110, 99, 101, 108]
def kRed : List UInt8 := [114, 101, 100, 117, 99, 101]
def kBuy : List UInt8 := [98, 117, 121]
def kSel : List UInt8 := [115, 101, 108, 108]
def kDay : List UInt8 := [100, 97, 121]
def kTag : List UInt8 := [116, 97, 103]
/-- The side that a word names, 0 of others. -/
def sdW (l : List UInt8) : Int := if l = kBuy then 1 else if l = kSel then 2 else 0
/-- Whether the words behind the fourth begin with the day's, where the tag's would stand, and whether it does. -/
def dayW (ws : List ByteArray) : Bool := decide (4 < ws.length) && (wL ws 4 == kDay)
def dayP (ws : List ByteArray) : Nat := if dayW ws = true then 5 else 4
def tagW (ws : List ByteArray) : Bool := decide (ws.length = dayP ws + 2) && (wL ws (dayP ws) == kTag)
def newK (ws : List ByteArray) : Bool := decide (4 ≤ ws.length) && decide (tyN (wL ws 1) ≠ 0) && nmOk (wL ws 2) && prK (wL ws 3) && (decide (ws.length = dayP ws) || tagW ws)
def newC (ws : List ByteArray) : Cm := ⟨1, sdW (wL ws 0), tyN (wL ws 1), if dayW ws = true then 1 else 0, nmV (wL ws 2), 0, prV (wL ws 3), if tagW ws = true then wB ws (dayP ws + 1) else ⟨#[]⟩⟩
/-- Whether the words are a command's, and the command. -/
def cmK (ws : List ByteArray) : Bool :=
  if wL ws 0 = kEnd then decide (ws.length = 1) else if wL ws 0 = kCan then decide (ws.length = 2) && nmOk (wL ws 1) else if wL ws 0 = kRed then decide (ws.length = 3) && nmOk (wL ws 1) && nmOk (wL ws 2) else if sdW (wL ws 0) ≠ 0 then newK ws else false
def cmC (ws : List ByteArray) : Cm :=
  if wL ws 0 = kEnd then ⟨4, 0, 0, 0, 0, 0, 0, ⟨#[]⟩⟩ else if wL ws 0 = kCan then ⟨2, 0, 0, 0, 0, nmV (wL ws 1), 0, ⟨#[]⟩⟩ else if wL ws 0 = kRed then ⟨3, 0, 0, 0, nmV (wL ws 2), nmV (wL ws 1), 0, ⟨#[]⟩⟩ else newC ws
theorem wB_get {ws : List ByteArray} {i : Nat} (h : i < ws.length) : ws[i]? = some (wB ws i) := by
  unfold wB
  rw [List.getD_eq_getElem?_getD, List.getElem?_eq_getElem h]; rfl
/-- The two rows of words are read alike. -/
theorem bys_len {a b : List ByteArray} (h : bys a = bys b) : a.length = b.length := by
  have := congrArg List.length h
  simpa [bys] using this
theorem bys_eq {a b : List ByteArray} (h : bys a = bys b) : a = b := by
  have hl := bys_len h
  apply List.ext_getElem hl
  intro i h1 h2
  have := congrArg (fun l : List (List UInt8) => l[i]?) h
  simp only [bys, List.getElem?_map, List.getElem?_eq_getElem h1, List.getElem?_eq_getElem h2, Option.map_some, Option.some.injEq] at this
  exact WideShapes.bytes_inj this
/-- The cells of a row of words. -/
theorem row_words {W : World} {a : Option Addr} {cap : Nat} {ws : List ByteArray} (h : RdR tx1 1 W (.slice a ws.length cap) ws) (hne : ws ≠ []) : ∃ b off, a = some ⟨b, off, none⟩ ∧ b < W.heap.size ∧ ∀ i, i < ws.length → W.cell? ⟨b, off + i, none⟩ = some (.string (wB ws i)) := by
  obtain ⟨a', cap', h1, _, h2⟩ := h
  simp only [Value.slice.injEq, true_and] at h1
  obtain ⟨rfl, rfl⟩ := h1
  obtain ⟨b, off, rfl, hb, h3⟩ := h2 hne
  refine ⟨b, off, rfl, hb, fun i hi => ?_⟩
  have := h3 i _ (wB_get hi) 0 _ rfl
  rw [Nat.mul_one, Nat.add_zero] at this
  exact this
end Go.Proofs.YtjjopdkbdebfoaaDoor
