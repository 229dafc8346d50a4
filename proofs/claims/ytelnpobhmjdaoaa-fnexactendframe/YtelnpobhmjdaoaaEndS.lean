/-
  The frame of totals, by the model and by the program: proved by walking the functions.
-/
import Derived.Test.YtelnpobhmjdaoaaEndX
namespace Go.Proofs.Ytelnpobhmjdaoaa
open Go.RowKit
set_option linter.unusedVariables false

set_option maxRecDepth 100000 in
set_option maxHeartbeats 3200000 in
theorem l06End_any (t : Tt) (ht : t.ok) (w : World) :
    Calls Try.prog 11 #[.agg #[.int .i64 t.a, .int .i64 t.b, .int .i64 t.c, .int .i64 t.d, .int .i64 t.e, .int .i64 t.f, .int .i64 t.g, .int .i64 t.h]] w fun e w' => ∃ v, e = .returned v ∧ BRow w' w.heap.size v (pay t.ns) ∧ Below w.heap.size w w' := by
  obtain ⟨i0, hi0, hz0, hz1, hz2⟩ := info_parts Try.infoByte
  obtain ⟨n0, n1, n2, n3, n4, n5, n6, n7⟩ := t
  have HOK : Hid (∀ n ∈ [n0, n1, n2, n3, n4, n5, n6, n7], I6 n) := ht
  clear ht
  show Calls _ _ _ _ fun e w' => ∃ v, e = .returned v ∧ BRow w' w.heap.size v (pay [n0, n1, n2, n3, n4, n5, n6, n7]) ∧ Below w.heap.size w w'
  simp only
  have hs1 : (w.alloc (Obj.cells #[.int .i64 n0, .int .i64 n1, .int .i64 n2, .int .i64 n3, .int .i64 n4, .int .i64 n5, .int .i64 n6, .int .i64 n7] 27)).heap.size = w.heap.size + 1 := size_madeE _ _
  have hs2 : ((w.alloc (Obj.cells #[.int .i64 n0, .int .i64 n1, .int .i64 n2, .int .i64 n3, .int .i64 n4, .int .i64 n5, .int .i64 n6, .int .i64 n7] 27)).alloc (Obj.cells #[.int .i64 n0, .int .i64 n1, .int .i64 n2, .int .i64 n3, .int .i64 n4, .int .i64 n5, .int .i64 n6, .int .i64 n7] 3)).heap.size = w.heap.size + 1 + 1 := by rw [size_madeE, hs1]
  have hb1 : Below w.heap.size w (w.alloc (Obj.cells #[.int .i64 n0, .int .i64 n1, .int .i64 n2, .int .i64 n3, .int .i64 n4, .int .i64 n5, .int .i64 n6, .int .i64 n7] 27)) := (Below.refl _ _).alloc (Nat.le_refl _) _
  have hb2 : Below w.heap.size w ((w.alloc (Obj.cells #[.int .i64 n0, .int .i64 n1, .int .i64 n2, .int .i64 n3, .int .i64 n4, .int .i64 n5, .int .i64 n6, .int .i64 n7] 27)).alloc (Obj.cells #[.int .i64 n0, .int .i64 n1, .int .i64 n2, .int .i64 n3, .int .i64 n4, .int .i64 n5, .int .i64 n6, .int .i64 n7] 3)) := hb1.alloc (by rw [hs1]; omega) _
  have HB1 := hide hb1
  have HR1 : Hid (World.rangeAt (w.alloc (Obj.cells #[.int .i64 n0, .int .i64 n1, .int .i64 n2, .int .i64 n3, .int .i64 n4, .int .i64 n5, .int .i64 n6, .int .i64 n7] 27)) w.heap.size 0 [.int .i64 n0, .int .i64 n1, .int .i64 n2, .int .i64 n3, .int .i64 n4, .int .i64 n5, .int .i64 n6, .int .i64 n7]) := cells_madeE w [.int .i64 n0, .int .i64 n1, .int .i64 n2, .int .i64 n3, .int .i64 n4, .int .i64 n5, .int .i64 n6, .int .i64 n7] _
  have HI2 : Hid (World.rangeAt ((w.alloc (Obj.cells #[.int .i64 n0, .int .i64 n1, .int .i64 n2, .int .i64 n3, .int .i64 n4, .int .i64 n5, .int .i64 n6, .int .i64 n7] 27)).alloc (Obj.cells #[.int .i64 n0, .int .i64 n1, .int .i64 n2, .int .i64 n3, .int .i64 n4, .int .i64 n5, .int .i64 n6, .int .i64 n7] 3)) (w.heap.size + 1) 0 [.int .i64 n0, .int .i64 n1, .int .i64 n2, .int .i64 n3, .int .i64 n4, .int .i64 n5, .int .i64 n6, .int .i64 n7]) := by have := cells_madeE (w.alloc (Obj.cells #[.int .i64 n0, .int .i64 n1, .int .i64 n2, .int .i64 n3, .int .i64 n4, .int .i64 n5, .int .i64 n6, .int .i64 n7] 27)) [.int .i64 n0, .int .i64 n1, .int .i64 n2, .int .i64 n3, .int .i64 n4, .int .i64 n5, .int .i64 n6, .int .i64 n7] 3; rw [hs1] at this; exact this
  have HB2 := hide hb2
  have HO3 : Hid (BRow (((w.alloc (Obj.cells #[.int .i64 n0, .int .i64 n1, .int .i64 n2, .int .i64 n3, .int .i64 n4, .int .i64 n5, .int .i64 n6, .int .i64 n7] 27)).alloc (Obj.cells #[.int .i64 n0, .int .i64 n1, .int .i64 n2, .int .i64 n3, .int .i64 n4, .int .i64 n5, .int .i64 n6, .int .i64 n7] 3)).alloc (Obj.cells #[] 5)) (w.heap.size + 1 + 1) (.slice (some ⟨w.heap.size + 1 + 1, 0, none⟩) 0 0) []) := by have := World.ownsRow_made (base := w.heap.size + 1 + 1) (e := 5) (size := 1) ((w.alloc (Obj.cells #[.int .i64 n0, .int .i64 n1, .int .i64 n2, .int .i64 n3, .int .i64 n4, .int .i64 n5, .int .i64 n6, .int .i64 n7] 27)).alloc (Obj.cells #[.int .i64 n0, .int .i64 n1, .int .i64 n2, .int .i64 n3, .int .i64 n4, .int .i64 n5, .int .i64 n6, .int .i64 n7] 3)) #[] 0 (by rw [hs2]; omega) (by decide) rfl; rw [hs2] at this; exact this
  have HB3 : Hid (Below (w.heap.size + 1 + 1) ((w.alloc (Obj.cells #[.int .i64 n0, .int .i64 n1, .int .i64 n2, .int .i64 n3, .int .i64 n4, .int .i64 n5, .int .i64 n6, .int .i64 n7] 27)).alloc (Obj.cells #[.int .i64 n0, .int .i64 n1, .int .i64 n2, .int .i64 n3, .int .i64 n4, .int .i64 n5, .int .i64 n6, .int .i64 n7] 3)) (((w.alloc (Obj.cells #[.int .i64 n0, .int .i64 n1, .int .i64 n2, .int .i64 n3, .int .i64 n4, .int .i64 n5, .int .i64 n6, .int .i64 n7] 27)).alloc (Obj.cells #[.int .i64 n0, .int .i64 n1, .int .i64 n2, .int .i64 n3, .int .i64 n4, .int .i64 n5, .int .i64 n6, .int .i64 n7] 3)).alloc (Obj.cells #[] 5))) := (Below.refl _ _).alloc (by rw [hs2]; omega) _
  have HS3 : Hid (w.heap.size + 1 + 1 ≤ (((w.alloc (Obj.cells #[.int .i64 n0, .int .i64 n1, .int .i64 n2, .int .i64 n3, .int .i64 n4, .int .i64 n5, .int .i64 n6, .int .i64 n7] 27)).alloc (Obj.cells #[.int .i64 n0, .int .i64 n1, .int .i64 n2, .int .i64 n3, .int .i64 n4, .int .i64 n5, .int .i64 n6, .int .i64 n7] 3)).alloc (Obj.cells #[] 5)).heap.size) := by show _ ≤ _; rw [size_madeE, hs2]; omega
  have HS2 := hide hs2
  clear hb1 hb2 hs1 hs2
  go_enter Try.func11, Try.ntmps11
  refine wp_seq_k fun K hK => ?_
  have HK1 := hide hK
  clear hK
  go_wp2_with fail
  refine unhide HK1 _ _ ?_
  clear HK1
  have z0 : World.cell? (w.alloc (Obj.cells #[.int .i64 n0, .int .i64 n1, .int .i64 n2, .int .i64 n3, .int .i64 n4, .int .i64 n5, .int .i64 n6, .int .i64 n7] 27)) ⟨w.heap.size, 0, none⟩ = some (.int .i64 n0) := unhide HR1 0 _ rfl
  have z1 : World.cell? (w.alloc (Obj.cells #[.int .i64 n0, .int .i64 n1, .int .i64 n2, .int .i64 n3, .int .i64 n4, .int .i64 n5, .int .i64 n6, .int .i64 n7] 27)) ⟨w.heap.size, 1, none⟩ = some (.int .i64 n1) := unhide HR1 1 _ rfl
  have z2 : World.cell? (w.alloc (Obj.cells #[.int .i64 n0, .int .i64 n1, .int .i64 n2, .int .i64 n3, .int .i64 n4, .int .i64 n5, .int .i64 n6, .int .i64 n7] 27)) ⟨w.heap.size, 2, none⟩ = some (.int .i64 n2) := unhide HR1 2 _ rfl
  have z3 : World.cell? (w.alloc (Obj.cells #[.int .i64 n0, .int .i64 n1, .int .i64 n2, .int .i64 n3, .int .i64 n4, .int .i64 n5, .int .i64 n6, .int .i64 n7] 27)) ⟨w.heap.size, 3, none⟩ = some (.int .i64 n3) := unhide HR1 3 _ rfl
  have z4 : World.cell? (w.alloc (Obj.cells #[.int .i64 n0, .int .i64 n1, .int .i64 n2, .int .i64 n3, .int .i64 n4, .int .i64 n5, .int .i64 n6, .int .i64 n7] 27)) ⟨w.heap.size, 4, none⟩ = some (.int .i64 n4) := unhide HR1 4 _ rfl
  have z5 : World.cell? (w.alloc (Obj.cells #[.int .i64 n0, .int .i64 n1, .int .i64 n2, .int .i64 n3, .int .i64 n4, .int .i64 n5, .int .i64 n6, .int .i64 n7] 27)) ⟨w.heap.size, 5, none⟩ = some (.int .i64 n5) := unhide HR1 5 _ rfl
  have z6 : World.cell? (w.alloc (Obj.cells #[.int .i64 n0, .int .i64 n1, .int .i64 n2, .int .i64 n3, .int .i64 n4, .int .i64 n5, .int .i64 n6, .int .i64 n7] 27)) ⟨w.heap.size, 6, none⟩ = some (.int .i64 n6) := unhide HR1 6 _ rfl
  have z7 : World.cell? (w.alloc (Obj.cells #[.int .i64 n0, .int .i64 n1, .int .i64 n2, .int .i64 n3, .int .i64 n4, .int .i64 n5, .int .i64 n6, .int .i64 n7] 27)) ⟨w.heap.size, 7, none⟩ = some (.int .i64 n7) := unhide HR1 7 _ rfl
  refine wp_seq_k fun K hK => ?_
  have HK1 := hide hK
  clear hK
  go_wp2_with fail
  refine unhide HK1 _ _ ?_
  clear HK1
  clear z0 z1 z2 z3 z4 z5 z6 z7
  refine wp_seq_k fun K hK => ?_
  have HK1 := hide hK
  clear hK
  go_wp2_with fail
  refine unhide HK1 _ _ ?_
  clear HK1
  generalize (((w.alloc (Obj.cells #[.int .i64 n0, .int .i64 n1, .int .i64 n2, .int .i64 n3, .int .i64 n4, .int .i64 n5, .int .i64 n6, .int .i64 n7] 27)).alloc (Obj.cells #[.int .i64 n0, .int .i64 n1, .int .i64 n2, .int .i64 n3, .int .i64 n4, .int .i64 n5, .int .i64 n6, .int .i64 n7] 3)).alloc (Obj.cells #[] 5)) = X3 at HO3 HB3 HS3 ⊢
  generalize ((w.alloc (Obj.cells #[.int .i64 n0, .int .i64 n1, .int .i64 n2, .int .i64 n3, .int .i64 n4, .int .i64 n5, .int .i64 n6, .int .i64 n7] 27)).alloc (Obj.cells #[.int .i64 n0, .int .i64 n1, .int .i64 n2, .int .i64 n3, .int .i64 n4, .int .i64 n5, .int .i64 n6, .int .i64 n7] 3)) = X2 at HI2 HB2 HB3 HS2
  clear HR1 HB1
  refine wp_seq_k fun K hK => ?_
  have HK1 := hide hK
  clear hK
  go_wp2_with fail
  go_loopw [4, 5] (fun ov iv wr => ∃ (k : Nat), k ≤ 8 ∧ iv = .int .i64 k ∧ Hid (BRow wr (w.heap.size + 1 + 1) ov (pay ([n0, n1, n2, n3, n4, n5, n6, n7].take k)) ∧ Below (w.heap.size + 1 + 1) X2 wr)) (fun _ iv _ => 8 - (intOf iv).toNat)
  case atStart => exact ⟨0, by omega, rfl, unhide HO3, unhide HB3⟩
  case round =>
    obtain ⟨k, hk, rfl, hin⟩ := hrel
    by_cases hlt : k < 8
    · obtain ⟨n, hkn⟩ : ∃ n, [n0, n1, n2, n3, n4, n5, n6, n7][k]? = some n := ⟨_, List.getElem?_eq_getElem (by simpa using hlt)⟩
      have HNX : Hid (pay ([n0, n1, n2, n3, n4, n5, n6, n7].take (k + 1)) = pay ([n0, n1, n2, n3, n4, n5, n6, n7].take k) ++ putU (zz n)) := pay_more [n0, n1, n2, n3, n4, n5, n6, n7] hkn
      have hin6 := unhide HOK n (List.mem_of_getElem? hkn)
      obtain ⟨hrow, hbel⟩ := unhide hin
      have hle := pay_len ([n0, n1, n2, n3, n4, n5, n6, n7].take k) (fun m hm => unhide HOK m (List.mem_of_mem_take hm))
      have hle2 : (pay ([n0, n1, n2, n3, n4, n5, n6, n7].take k)).length ≤ 80 := Nat.le_trans hle (by simp; omega)
      have hvk : ([.int .i64 n0, .int .i64 n1, .int .i64 n2, .int .i64 n3, .int .i64 n4, .int .i64 n5, .int .i64 n6, .int .i64 n7] : List Value)[k]? = some (.int .i64 n) := by
        have : ([.int .i64 n0, .int .i64 n1, .int .i64 n2, .int .i64 n3, .int .i64 n4, .int .i64 n5, .int .i64 n6, .int .i64 n7] : List Value) = [n0, n1, n2, n3, n4, n5, n6, n7].map (Value.int .i64) := rfl
        rw [this, List.getElem?_map, hkn]; rfl
      have q : wr.cell? ⟨w.heap.size + 1, k, none⟩ = some (.int .i64 n) := by
        have h1 := unhide HI2 k _ hvk
        rw [Nat.zero_add] at h1
        exact (hbel.cell (p := ⟨w.heap.size + 1, k, none⟩) (show w.heap.size + 1 < w.heap.size + 1 + 1 by omega)).trans h1
      generalize pay ([n0, n1, n2, n3, n4, n5, n6, n7].take k) = L at hrow HNX hle2
      have HRO := hide hrow
      have HBE := hide hbel
      have hlt' : (k : Int) < 8 := by omega
      have hk0 : (0 : Int) ≤ k := by omega
      clear hrow hbel hle hin hvk hkn
      go_wp2_with fail
      refine (l01Put_any n wr hin6.1 hin6.2).mono ?_
      rintro e w2 ⟨v2, rfl, ho2, hb2⟩
      have h10 := putU_len10 _ (zz_lt n hin6.1 hin6.2)
      obtain ⟨g, cp, rfl, hgl, hsrc⟩ := ownT_src ho2
      have HSRC := hide hsrc
      have HRW := hide (bRow_below (unhide HRO) hb2)
      have hX2 : w.heap.size + 1 + 1 ≤ wr.heap.size := by have := (unhide HBE).size; have := unhide HS2; omega
      have HSZ : Hid (w.heap.size + 1 + 1 ≤ w2.heap.size) := Nat.le_trans hX2 hb2.size
      have HB4 := hide ((unhide HBE).trans (hb2.mono hX2))
      clear ho2 hb2 hsrc q
      generalize putU (zz n) = P at HNX h10 HSRC ⊢
      go_wp2_with (at_builtin; go_must (refine wpList_append_own _ rfl _ _ 24 rfl (w.heap.size + 1 + 1) 5 i0 _ 1 1 Try.underlying24 hi0 hz0 hz1 hz2 rfl (by decide) u4 _ _ rfl (unhide HRW) ⟨g, 0, none⟩ _ cp (P.map (Value.int .u8)) rfl (by simp) (unhide HSRC) (one_b _) (by unfold maxLen; omega) (by omega) (unhide HSZ) ?_); intro v3 w3 hown hg _; have HOW := hide hown; have HGR := hide hg; clear hown hg)
      have HN : Hid (BRow w3 (w.heap.size + 1 + 1) v3 (pay ([n0, n1, n2, n3, n4, n5, n6, n7].take (k + 1))) ∧ Below (w.heap.size + 1 + 1) X2 w3) := by
        rw [unhide HNX]
        exact ⟨bRow_more (unhide HOW), (unhide HB4).grown (unhide HGR) (unhide HSZ) (fun q hq => ((unhide HRW).lt q hq).1)⟩
      clear HOW HGR
      go_wp2_with fail
      go_roundw
      case rel => exact ⟨k + 1, by omega, by go_num, unhide HN⟩
      case measure => simp [intOf]; omega
    · obtain rfl : k = 8 := by omega
      have HIN : Hid (BRow wr (w.heap.size + 1 + 1) u4 (pay [n0, n1, n2, n3, n4, n5, n6, n7]) ∧ Below (w.heap.size + 1 + 1) X2 wr) := unhide hin
      clear hin
      go_wp2_with fail
      refine unhide HK1 _ _ ?_
      clear HK1
      go_wp2_with fail
      go_ret
      exact ⟨_, rfl, bRow_base (unhide HIN).1 (by omega), (unhide HB2).trans ((unhide HIN).2.mono (by omega))⟩
theorem isSum_yes (s : Int) (w : World) (h0 : 0 ≤ s) (h1 : s ≤ 65520) : Calls Try.prog 12 #[.int .i64 s] w fun e w' => e = .returned (.bool true) ∧ w' = w := by
  go_enter Try.func12, Try.ntmps12
  go_wp2
  go_ret
  exact ⟨rfl, rfl⟩
/-- What EndFrame answers. -/
def eL (t : Tt) (s : Int) : List Int := if 0 ≤ s ∧ s < 65521 then frL 69 (pay t.ns) s else []
def eS (t : Tt) (s : Int) : Int := if 0 ≤ s ∧ s < 65521 then frS 69 (pay t.ns) s else 0
def eC (s : Int) : Int := if 0 ≤ s ∧ s < 65521 then 0 else 5
theorem payT_pos (t : Tt) : 0 < (pay t.ns).length := by
  have : pay t.ns = putU (zz t.a) ++ pay [t.b, t.c, t.d, t.e, t.f, t.g, t.h] := rfl
  rw [this, List.length_append]
  have := putU_pos (zz t.a)
  omega
set_option maxRecDepth 100000 in
set_option maxHeartbeats 3200000 in
theorem implEnd_any (t : Tt) (ht : t.ok) (s : Int) (w : World) :
    Calls Try.prog 6 #[.agg #[.int .i64 t.a, .int .i64 t.b, .int .i64 t.c, .int .i64 t.d, .int .i64 t.e, .int .i64 t.f, .int .i64 t.g, .int .i64 t.h], .int .i64 s] w fun e w' => ∃ v, e = .returned (.tuple #[v, .int .i64 (eS t s), .int .i64 (eC s)]) ∧ BRow w' w.heap.size v (eL t s) ∧ Below w.heap.size w w' := by
  have HPL := hide (fun W => totalsPayload_any t ht W)
  have hpl : (pay t.ns).length ≤ 80 := Nat.le_trans (pay_len _ ht) (by simp [Tt.ns])
  have hpp := payT_pos t
  have HPB := hide (pay_bts t.ns)
  have HEL : Hid (eL t s = if 0 ≤ s ∧ s < 65521 then frL 69 (pay t.ns) s else []) := rfl
  have HES : Hid (eS t s = if 0 ≤ s ∧ s < 65521 then frS 69 (pay t.ns) s else 0) := rfl
  have HEC : Hid (eC s = if 0 ≤ s ∧ s < 65521 then 0 else 5) := rfl
  generalize eL t s = rL at HEL ⊢
  generalize eS t s = rS at HES ⊢
  generalize eC s = rC at HEC ⊢
  generalize pay t.ns = p at HPL hpl hpp HPB HEL HES
  obtain ⟨n0, n1, n2, n3, n4, n5, n6, n7⟩ := t
  simp only at HPL ⊢
  have hb1 : Below w.heap.size w (w.alloc (Obj.cells #[.int .i64 n0, .int .i64 n1, .int .i64 n2, .int .i64 n3, .int .i64 n4, .int .i64 n5, .int .i64 n6, .int .i64 n7] 27)) := (Below.refl _ _).alloc (Nat.le_refl _) _
  have HB1 := hide hb1
  have HR1 : Hid (World.rangeAt (w.alloc (Obj.cells #[.int .i64 n0, .int .i64 n1, .int .i64 n2, .int .i64 n3, .int .i64 n4, .int .i64 n5, .int .i64 n6, .int .i64 n7] 27)) w.heap.size 0 [.int .i64 n0, .int .i64 n1, .int .i64 n2, .int .i64 n3, .int .i64 n4, .int .i64 n5, .int .i64 n6, .int .i64 n7]) := cells_madeE w [.int .i64 n0, .int .i64 n1, .int .i64 n2, .int .i64 n3, .int .i64 n4, .int .i64 n5, .int .i64 n6, .int .i64 n7] _
  have HBR : Hid (BRow ((w.alloc (Obj.cells #[.int .i64 n0, .int .i64 n1, .int .i64 n2, .int .i64 n3, .int .i64 n4, .int .i64 n5, .int .i64 n6, .int .i64 n7] 27)).alloc (Obj.cells #[] 5)) w.heap.size (.slice (some ⟨w.heap.size + 1, 0, none⟩) 0 0) []) := by have := World.ownsRow_made (base := w.heap.size) (e := 5) (size := 1) (w.alloc (Obj.cells #[.int .i64 n0, .int .i64 n1, .int .i64 n2, .int .i64 n3, .int .i64 n4, .int .i64 n5, .int .i64 n6, .int .i64 n7] 27)) #[] 0 (by rw [size_madeE]; omega) (by decide) rfl; rw [size_madeE] at this; exact this
  clear hb1 ht
  by_cases hok : 0 ≤ s ∧ s < 65521
  · obtain ⟨h0, h1⟩ := hok
    have HK : Hid (rL = frL 69 p s ∧ rS = frS 69 p s ∧ rC = 0) := ⟨by rw [unhide HEL, if_pos ⟨h0, h1⟩], by rw [unhide HES, if_pos ⟨h0, h1⟩], by rw [unhide HEC, if_pos ⟨h0, h1⟩]⟩
    clear HEL HES HEC
    have hx0 : ¬ s < 0 := by omega
    have hx1 : s ≤ 65520 := by omega
    have hx2 : ¬ 65521 ≤ s := by omega
    go_enter Try.func6, Try.ntmps6
    refine wp_seq_k fun K hK => ?_
    have HK1 := hide hK
    clear hK
    go_wp2_with fail
    refine unhide HK1 _ _ ?_
    clear HK1
    generalize (w.alloc (Obj.cells #[.int .i64 n0, .int .i64 n1, .int .i64 n2, .int .i64 n3, .int .i64 n4, .int .i64 n5, .int .i64 n6, .int .i64 n7] 27)) = X at HB1 HR1 ⊢
    have z0 : X.cell? ⟨w.heap.size, 0, none⟩ = some (.int .i64 n0) := unhide HR1 0 _ rfl
    have z1 : X.cell? ⟨w.heap.size, 1, none⟩ = some (.int .i64 n1) := unhide HR1 1 _ rfl
    have z2 : X.cell? ⟨w.heap.size, 2, none⟩ = some (.int .i64 n2) := unhide HR1 2 _ rfl
    have z3 : X.cell? ⟨w.heap.size, 3, none⟩ = some (.int .i64 n3) := unhide HR1 3 _ rfl
    have z4 : X.cell? ⟨w.heap.size, 4, none⟩ = some (.int .i64 n4) := unhide HR1 4 _ rfl
    have z5 : X.cell? ⟨w.heap.size, 5, none⟩ = some (.int .i64 n5) := unhide HR1 5 _ rfl
    have z6 : X.cell? ⟨w.heap.size, 6, none⟩ = some (.int .i64 n6) := unhide HR1 6 _ rfl
    have z7 : X.cell? ⟨w.heap.size, 7, none⟩ = some (.int .i64 n7) := unhide HR1 7 _ rfl
    go_wp2_with fail
    refine (isSum_yes s X h0 hx1).mono ?_
    rintro e w' ⟨rfl, hw'⟩
    rw [hw']
    clear hw' w'
    go_wp2_with fail
    refine (unhide HPL X).mono ?_
    rintro e w2 ⟨v2, rfl, ho2, hb2⟩
    have HO2 := hide ho2
    have HB2 := hide ((unhide HB1).trans (hb2.mono (unhide HB1).size))
    have hX : w.heap.size ≤ X.heap.size := (unhide HB1).size
    clear ho2 hb2 z0 z1 z2 z3 z4 z5 z6 z7
    go_wp2_with fail
    refine (frameBehind_any v2 p s X.heap.size w2 (unhide HO2) hpp (by omega) (unhide HPB) h0 h1).mono ?_
    rintro e w3 ⟨v3, rfl, ho3, hb3⟩
    have HO3 := hide (bRow_base ho3 (unhide HB2).size)
    have HB3 := hide ((unhide HB2).trans (hb3.mono (unhide HB2).size))
    clear ho3 hb3
    go_wp2_with fail
    go_ret3
    obtain ⟨rfl, rfl, rfl⟩ := unhide HK
    exact ⟨_, rfl, unhide HO3, unhide HB3⟩
  · have HK : Hid (rL = [] ∧ rS = 0 ∧ rC = 5) := ⟨by rw [unhide HEL, if_neg hok], by rw [unhide HES, if_neg hok], by rw [unhide HEC, if_neg hok]⟩
    clear HEL HES HEC
    by_cases hx0 : s < 0
    · clear hok
      have hx1 : ¬ 0 ≤ s := by omega
      go_enter Try.func6, Try.ntmps6
      go_wp2
      go_ret3
      obtain ⟨rfl, rfl, rfl⟩ := unhide HK
      exact ⟨_, rfl, World.ownsRow_nil _ _ _ _, by go_grown⟩
    · have hx1 : 0 ≤ s := by omega
      have hx2 : ¬ s ≤ 65520 := by omega
      have hx3 : 65521 ≤ s := by omega
      clear hok
      go_enter Try.func6, Try.ntmps6
      go_wp2
      go_ret3
      obtain ⟨rfl, rfl, rfl⟩ := unhide HK
      exact ⟨_, rfl, World.ownsRow_nil _ _ _ _, by go_grown⟩
set_option maxRecDepth 100000 in
set_option maxHeartbeats 3200000 in
theorem specEnd_any (t : Tt) (ht : t.ok) (s : Int) (w : World) :
    Calls Try.prog 4 #[.agg #[.int .i64 t.a, .int .i64 t.b, .int .i64 t.c, .int .i64 t.d, .int .i64 t.e, .int .i64 t.f, .int .i64 t.g, .int .i64 t.h], .int .i64 s] w fun e w' => ∃ v, e = .returned (.tuple #[v, .int .i64 (eS t s), .int .i64 (eC s)]) ∧ BRow w' w.heap.size v (eL t s) ∧ Below w.heap.size w w' := by
  have HPL := hide (fun W => l06End_any t ht W)
  have hpl : (pay t.ns).length ≤ 80 := Nat.le_trans (pay_len _ ht) (by simp [Tt.ns])
  have hpp := payT_pos t
  have HPB := hide (pay_bts t.ns)
  have HEL : Hid (eL t s = if 0 ≤ s ∧ s < 65521 then frL 69 (pay t.ns) s else []) := rfl
  have HES : Hid (eS t s = if 0 ≤ s ∧ s < 65521 then frS 69 (pay t.ns) s else 0) := rfl
  have HEC : Hid (eC s = if 0 ≤ s ∧ s < 65521 then 0 else 5) := rfl
  generalize eL t s = rL at HEL ⊢
  generalize eS t s = rS at HES ⊢
  generalize eC s = rC at HEC ⊢
  generalize pay t.ns = p at HPL hpl hpp HPB HEL HES
  obtain ⟨n0, n1, n2, n3, n4, n5, n6, n7⟩ := t
  simp only at HPL ⊢
  have hb1 : Below w.heap.size w (w.alloc (Obj.cells #[.int .i64 n0, .int .i64 n1, .int .i64 n2, .int .i64 n3, .int .i64 n4, .int .i64 n5, .int .i64 n6, .int .i64 n7] 27)) := (Below.refl _ _).alloc (Nat.le_refl _) _
  have HB1 := hide hb1
  have HR1 : Hid (World.rangeAt (w.alloc (Obj.cells #[.int .i64 n0, .int .i64 n1, .int .i64 n2, .int .i64 n3, .int .i64 n4, .int .i64 n5, .int .i64 n6, .int .i64 n7] 27)) w.heap.size 0 [.int .i64 n0, .int .i64 n1, .int .i64 n2, .int .i64 n3, .int .i64 n4, .int .i64 n5, .int .i64 n6, .int .i64 n7]) := cells_madeE w [.int .i64 n0, .int .i64 n1, .int .i64 n2, .int .i64 n3, .int .i64 n4, .int .i64 n5, .int .i64 n6, .int .i64 n7] _
  have HBR : Hid (BRow ((w.alloc (Obj.cells #[.int .i64 n0, .int .i64 n1, .int .i64 n2, .int .i64 n3, .int .i64 n4, .int .i64 n5, .int .i64 n6, .int .i64 n7] 27)).alloc (Obj.cells #[] 5)) w.heap.size (.slice (some ⟨w.heap.size + 1, 0, none⟩) 0 0) []) := by have := World.ownsRow_made (base := w.heap.size) (e := 5) (size := 1) (w.alloc (Obj.cells #[.int .i64 n0, .int .i64 n1, .int .i64 n2, .int .i64 n3, .int .i64 n4, .int .i64 n5, .int .i64 n6, .int .i64 n7] 27)) #[] 0 (by rw [size_madeE]; omega) (by decide) rfl; rw [size_madeE] at this; exact this
  clear hb1 ht
  by_cases hok : 0 ≤ s ∧ s < 65521
  · obtain ⟨h0, h1⟩ := hok
    have HK : Hid (rL = frL 69 p s ∧ rS = frS 69 p s ∧ rC = 0) := ⟨by rw [unhide HEL, if_pos ⟨h0, h1⟩], by rw [unhide HES, if_pos ⟨h0, h1⟩], by rw [unhide HEC, if_pos ⟨h0, h1⟩]⟩
    clear HEL HES HEC
    have hx0 : ¬ s < 0 := by omega
    have hx1 : s ≤ 65520 := by omega
    have hx2 : ¬ 65521 ≤ s := by omega
    go_enter Try.func4, Try.ntmps4
    refine wp_seq_k fun K hK => ?_
    have HK1 := hide hK
    clear hK
    go_wp2_with fail
    refine unhide HK1 _ _ ?_
    clear HK1
    generalize (w.alloc (Obj.cells #[.int .i64 n0, .int .i64 n1, .int .i64 n2, .int .i64 n3, .int .i64 n4, .int .i64 n5, .int .i64 n6, .int .i64 n7] 27)) = X at HB1 HR1 ⊢
    have z0 : X.cell? ⟨w.heap.size, 0, none⟩ = some (.int .i64 n0) := unhide HR1 0 _ rfl
    have z1 : X.cell? ⟨w.heap.size, 1, none⟩ = some (.int .i64 n1) := unhide HR1 1 _ rfl
    have z2 : X.cell? ⟨w.heap.size, 2, none⟩ = some (.int .i64 n2) := unhide HR1 2 _ rfl
    have z3 : X.cell? ⟨w.heap.size, 3, none⟩ = some (.int .i64 n3) := unhide HR1 3 _ rfl
    have z4 : X.cell? ⟨w.heap.size, 4, none⟩ = some (.int .i64 n4) := unhide HR1 4 _ rfl
    have z5 : X.cell? ⟨w.heap.size, 5, none⟩ = some (.int .i64 n5) := unhide HR1 5 _ rfl
    have z6 : X.cell? ⟨w.heap.size, 6, none⟩ = some (.int .i64 n6) := unhide HR1 6 _ rfl
    have z7 : X.cell? ⟨w.heap.size, 7, none⟩ = some (.int .i64 n7) := unhide HR1 7 _ rfl
    go_wp2_with fail
    refine (unhide HPL X).mono ?_
    rintro e w2 ⟨v2, rfl, ho2, hb2⟩
    have HO2 := hide ho2
    have HB2 := hide ((unhide HB1).trans (hb2.mono (unhide HB1).size))
    have hX : w.heap.size ≤ X.heap.size := (unhide HB1).size
    clear ho2 hb2 z0 z1 z2 z3 z4 z5 z6 z7
    go_wp2_with fail
    refine (l06Frame_any v2 p s X.heap.size w2 (unhide HO2) hpp (by omega) (unhide HPB) h0 h1).mono ?_
    rintro e w3 ⟨v3, rfl, ho3, hb3⟩
    have HO3 := hide (bRow_base ho3 (unhide HB2).size)
    have HB3 := hide ((unhide HB2).trans (hb3.mono (unhide HB2).size))
    clear ho3 hb3
    go_wp2_with fail
    go_ret3
    obtain ⟨rfl, rfl, rfl⟩ := unhide HK
    exact ⟨_, rfl, unhide HO3, unhide HB3⟩
  · have HK : Hid (rL = [] ∧ rS = 0 ∧ rC = 5) := ⟨by rw [unhide HEL, if_neg hok], by rw [unhide HES, if_neg hok], by rw [unhide HEC, if_neg hok]⟩
    clear HEL HES HEC
    by_cases hx0 : s < 0
    · clear hok
      have hx1 : ¬ 0 ≤ s := by omega
      go_enter Try.func4, Try.ntmps4
      go_wp2
      go_ret3
      obtain ⟨rfl, rfl, rfl⟩ := unhide HK
      exact ⟨_, rfl, unhide HBR, by go_grown⟩
    · have hx1 : 0 ≤ s := by omega
      have hx2 : ¬ s ≤ 65520 := by omega
      have hx3 : 65521 ≤ s := by omega
      clear hok
      go_enter Try.func4, Try.ntmps4
      go_wp2
      go_ret3
      obtain ⟨rfl, rfl, rfl⟩ := unhide HK
      exact ⟨_, rfl, unhide HBR, by go_grown⟩
end Go.Proofs.Ytelnpobhmjdaoaa
