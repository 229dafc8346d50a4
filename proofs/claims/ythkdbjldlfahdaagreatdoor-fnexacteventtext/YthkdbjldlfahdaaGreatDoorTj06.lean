/-
  A number's text, by the model, of whatever sign.
-/
import Derived.Test.YthkdbjldlfahdaaGreatDoorTj01
import Derived.Test.YthkdbjldlfahdaaGreatDoorTj05
namespace Go.Proofs.YthkdbjldlfahdaaGreatDoor
open Go.RowKit
set_option linter.unusedVariables false

set_option maxRecDepth 100000 in
set_option maxHeartbeats 1600000 in
theorem dig_any (n : Int) (w : World) (h0 : -9223372036854775808 ≤ n) (h1 : n ≤ 9223372036854775807) : Calls Tryz.prog 17 #[.int .i64 n] w fun e w' => e = .returned (.string (itB n)) ∧ Below w.heap.size w w' := by
  by_cases hp : 0 ≤ n
  · obtain ⟨u, rfl⟩ := Int.eq_ofNat_of_zero_le hp
    exact digP_any u w (by omega)
  · by_cases hm : n = -9223372036854775808
    · subst hm
      have HF := hide itB_min
      generalize itB (-9223372036854775808) = I at *
      go_enter Tryz.func17, Tryz.ntmps17
      go_wp2_with fail
      go_ret
      exact ⟨by rw [unhide HF]; rfl, Below.refl _ _⟩
    · have hm' : (n == -9223372036854775808) = false := by rw [beq_eq_false_iff_ne]; exact hm
      have hn : n < 0 := by omega
      obtain ⟨u, hu⟩ := Int.eq_ofNat_of_zero_le (show 0 ≤ -n by omega)
      have HF := hide (itB_neg n hn)
      rw [hu] at HF
      have hs := itB_size ((u : Nat) : Int) (by omega) (by omega)
      have HI := hide (digP_any u w (by omega))
      have hneg : wrap64 (u : Int) = (u : Int) := by unfold wrap64; omega
      generalize itB ((u : Nat) : Int) = I at *
      clear hm hp
      go_enter Tryz.func17, Tryz.ntmps17
      go_wp2_with fail
      refine (unhide HI).mono ?_
      rintro e w2 ⟨rfl, hb2⟩
      have HB2 := hide hb2
      clear hb2
      go_wp2_with fail
      go_ret
      exact ⟨by rw [unhide HF]; rfl, unhide HB2⟩
end Go.Proofs.YthkdbjldlfahdaaGreatDoor
namespace Go.Proofs.YthkdbjldlfahdaaGreatDoor
open Go.RowKit
set_option linter.unusedVariables false

/-- A word and numbers behind it. -/
def lnB (s : ByteArray) (ns : List Int) : ByteArray := ns.foldl (fun t n => t ++ (⟨#[32]⟩ ++ itB n)) s
theorem lnB_more (s : ByteArray) (ns : List Int) (k : Nat) (n : Int) (h : ns[k]? = some n) : lnB s (ns.take (k + 1)) = lnB s (ns.take k) ++ (⟨#[32]⟩ ++ itB n) := by
  unfold lnB
  rw [List.take_add_one, h]
  simp
theorem lnB_size (s : ByteArray) (ns : List Int) (h : ∀ n ∈ ns, -9223372036854775808 ≤ n ∧ n ≤ 9223372036854775807) : (lnB s ns).size ≤ s.size + 22 * ns.length := by
  induction ns generalizing s with
  | nil => simp [lnB]
  | cons n ns ih =>
    have h1 := ih (s ++ (⟨#[32]⟩ ++ itB n)) (fun m hm => h m (List.mem_cons_of_mem _ hm))
    have h2 := itB_size n (h n (by simp)).1 (h n (by simp)).2
    have h3 : (s ++ ((⟨#[32]⟩ : ByteArray) ++ itB n)).size = s.size + (1 + (itB n).size) := by simp; rfl
    unfold lnB at h1 ⊢
    rw [List.foldl_cons, List.length_cons]
    omega
set_option maxRecDepth 100000 in
set_option maxHeartbeats 1600000 in
theorem lineOf_any (s : ByteArray) (g : Nat) (ns : List Int) (w : World) (hx : Bx w g (ns.map (Value.int .i64))) (hg : g < w.heap.size) (hn : ∀ n ∈ ns, -9223372036854775808 ≤ n ∧ n ≤ 9223372036854775807) (hl : ns.length ≤ 4) (hs : s.size ≤ 100) (ht : PowT w) :
    Calls Tryz.prog 24 #[.string s, .slice (some ⟨g, 0, none⟩) ns.length ns.length] w fun e w' => e = .returned (.string (lnB s ns)) ∧ Below w.heap.size w w' := by
  have HX := hide hx
  have HN := hide hn
  have HT := hide ht
  have hl' : (ns.length : Int) ≤ 4 := by omega
  clear hx hn ht
  go_enter Tryz.func24, Tryz.ntmps24
  go_wp2_with fail
  go_loopw [5, 11] (fun lv iv wr => ∃ k : Nat, k ≤ ns.length ∧ iv = .int .i64 k ∧ lv = .string (lnB s (ns.take k)) ∧ Below w.heap.size w wr) (fun _ iv _ => ns.length - (intOf iv).toNat)
  case atStart => exact ⟨0, Nat.zero_le _, rfl, rfl, Below.refl _ _⟩
  case round =>
    obtain ⟨k, hk, rfl, rfl, hb⟩ := hrel
    have HB := hide hb
    by_cases hlt : k < ns.length
    · obtain ⟨n, hkn⟩ : ∃ n, ns[k]? = some n := ⟨_, List.getElem?_eq_getElem hlt⟩
      have hc : wr.cell? ⟨g, k, none⟩ = some (.int .i64 n) := (hb.cell (p := ⟨g, k, none⟩) hg).trans (bx_cell (unhide HX) k (by rw [List.getElem?_map, hkn]; rfl))
      have hnb := unhide HN n (List.mem_of_getElem? hkn)
      have hsz1 := itB_size n hnb.1 hnb.2
      have hsz2 := lnB_size s (ns.take k) (fun m hm => unhide HN m (List.mem_of_mem_take hm))
      have hsz3 : (lnB s (ns.take k)).size ≤ 188 := by
        have : (ns.take k).length ≤ 4 := Nat.le_trans (List.length_take_le _ _) (by omega)
        omega
      have HM := hide (lnB_more s ns k n hkn)
      have HI := hide (fun W h => itoa_any n W hnb.1 hnb.2 h)
      have hlt' : (k : Int) < ns.length := by omega
      generalize lnB s (ns.take k) = L at *
      generalize itB n = I at *
      clear hb hkn hsz2
      go_wp2_with fail
      refine (unhide HI wr (powT_below (unhide HT) (unhide HB) (Nat.le_refl _))).mono ?_
      rintro e w2 ⟨rfl, hb2⟩
      have HB2 := hide ((unhide HB).trans (hb2.mono (unhide HB).size))
      clear hb2
      go_wp2_with fail
      go_roundw
      case rel => exact ⟨k + 1, by omega, by go_num, by rw [unhide HM], unhide HB2⟩
      case measure => simp [intOf]; omega
    · obtain rfl : k = ns.length := by omega
      rw [List.take_length]
      clear hb
      go_wp2_with fail
      go_ret
      exact ⟨rfl, unhide HB⟩
end Go.Proofs.YthkdbjldlfahdaaGreatDoor
