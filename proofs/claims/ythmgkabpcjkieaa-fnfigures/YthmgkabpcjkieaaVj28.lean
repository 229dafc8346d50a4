/-
  How many levels orders have, as the model counts them: proved by walking the function. (what walks the functions of the model or of the laws)
-/
import Derived.Test.YthmgkabpcjkieaaVj27
namespace Go.Proofs.Ythmgkabpcjkieaa
open Go.RowKit
set_option linter.unusedVariables false

set_option maxRecDepth 100000 in
set_option maxHeartbeats 1600000 in
theorem l03Levels_any (v : Value) (l : List Od) (w : World) (hr : RdR Od.vs 6 w v l) (hn : l.length ≤ 1000) :
    Calls Try.prog 42 #[v] w fun e w' => e = .returned (.int .i64 (nlev l : Nat)) ∧ w.grownBy w' none := by
  obtain ⟨a, cap, rfl, hlen, hc⟩ := hr
  have hcell : ∀ (k : Nat) (c : Od), l[k]? = some c → ∃ b off, a = some ⟨b, off, none⟩ ∧ b < w.heap.size ∧ w.rangeAt b (off + k * 6) c.vs := by
    intro k c hk
    obtain ⟨b, off, h1, h2, h3⟩ := hc (by intro h; rw [h] at hk; simp at hk)
    exact ⟨b, off, h1, h2, h3 k c hk⟩
  have HC := hide hcell
  clear hcell hc
  go_enter Try.func42, Try.ntmps42
  go_wp2_with fail
  go_loopw [3, 4] (fun nv iv wr => ∃ (i n : Nat), nv = .int .i64 n ∧ i ≤ l.length ∧ iv = .int .i64 i ∧ Hid (n = nlev (l.take i)) ∧ n ≤ i ∧ w.grownBy wr none) (fun _ iv _ => l.length - (intOf iv).toNat)
  case atStart => exact ⟨0, 0, rfl, Nat.zero_le _, rfl, by simp [Hid, nlev, nlevR], Nat.le_refl _, World.grownBy.refl _ _⟩
  case round =>
    obtain ⟨i, n, rfl, hi, rfl, hnl, hni, hg⟩ := hrel
    have HG := hide hg
    clear hg
    by_cases hlt : i < l.length
    · obtain ⟨c, hkc⟩ : ∃ c, l[i]? = some c := ⟨_, List.getElem?_eq_getElem hlt⟩
      obtain ⟨b, off, rfl, hb, hcl⟩ := unhide HC i c hkc
      have HKC := hide hkc
      have HCL := hide hcl
      have hlt' : (i : Int) < l.length := by omega
      have HNN : Hid (nlev (l.take (i + 1)) = n + (freshB c (l.take i)).toNat) := by
        show _ = _
        rw [takeR l i c hkc, nlev_fresh, ← unhide hnl]
      clear hkc hcl hnl
      go_wp2_with fail
      go_loopw [5, 6] (fun fv kv wq => ∃ (k : Nat) (fb : Bool), fv = .bool fb ∧ k ≤ i ∧ kv = .int .i64 k ∧ Hid (fb = freshB c (l.take k)) ∧ w.grownBy wq none) (fun _ kv _ => i - (intOf kv).toNat)
      case atStart => exact ⟨0, true, rfl, Nat.zero_le _, rfl, rfl, unhide HG⟩
      case round =>
        obtain ⟨k, fb, rfl, hk, rfl, hfb, hg⟩ := hrel
        have HGQ := hide hg
        clear hg
        by_cases hki : k < i
        · obtain ⟨y, hky⟩ : ∃ y, l[k]? = some y := ⟨_, List.getElem?_eq_getElem (by omega)⟩
          obtain ⟨b', off', hbe, hb', hcl'⟩ := unhide HC k y hky
          simp only [Option.some.injEq, Addr.mk.injEq, and_true] at hbe
          obtain ⟨rfl, rfl⟩ := hbe
          have HFN : Hid (freshB c (l.take (k + 1)) = (fb && difB c y)) := by
            show _ = _
            rw [takeR l k y hky, unhide hfb, freshB, List.all_append]; simp [freshB]
          obtain ⟨-, e1, e2, -⟩ := od_cells (range_grown (unhide HCL) (unhide HGQ) hb (by simp))
          obtain ⟨-, d1, d2, -⟩ := od_cells (range_grown hcl' (unhide HGQ) hb (by simp))
          have hki' : (k : Int) < i := by omega
          have hkl' : (k : Int) < l.length := by omega
          have hfin : ∀ (fb' : Bool), fb' = (fb && difB c y) → Hid (fb' = freshB c (l.take (k + 1))) := fun fb' h => by show _ = _; rw [h, unhide HFN]
          have HFIN := hide hfin
          clear hky hcl' hfin
          cases fb
          · go_wp2_with fail
            go_quiet (fail)
            go_wp2_with fail
            go_roundw
            case rel => exact ⟨k + 1, false, rfl, by omega, by go_num, unhide HFIN _ rfl, gr_drewM (unhide HGQ) rfl rfl rfl rfl⟩
            case measure => simp [intOf]; omega
          · by_cases h1 : y.side = c.side
            · have h1' : (y.side != c.side) = false := by simpa using h1
              by_cases h2 : y.ticks = c.ticks
              · have hd : (true && difB c y) = false := by simp [difB, h1, h2]
                go_wp2_with fail
                go_quiet (fail)
                go_wp2_with fail
                go_roundw
                case rel => exact ⟨k + 1, false, by first | rfl | simp [h2], by omega, by go_num, unhide HFIN _ hd.symm, gr_drewM (unhide HGQ) rfl rfl rfl rfl⟩
                case measure => simp [intOf]; omega
              · have hd : (true && difB c y) = true := by simp [difB, h2]
                go_wp2_with fail
                go_quiet (fail)
                go_wp2_with fail
                go_roundw
                case rel => exact ⟨k + 1, true, by first | rfl | simp [h2], by omega, by go_num, unhide HFIN _ hd.symm, gr_drewM (unhide HGQ) rfl rfl rfl rfl⟩
                case measure => simp [intOf]; omega
            · have h1' : (y.side != c.side) = true := by simpa using h1
              have hd : (true && difB c y) = true := by simp [difB, h1]
              go_wp2_with fail
              go_quiet (fail)
              go_wp2_with fail
              go_roundw
              case rel => exact ⟨k + 1, true, by first | rfl | simp, by omega, by go_num, unhide HFIN _ hd.symm, gr_drewM (unhide HGQ) rfl rfl rfl rfl⟩
              case measure => simp [intOf]; omega
        · obtain rfl : k = i := by omega
          have HF := hfb
          cases fb
          · have HE : Hid (nlev (l.take (k + 1)) = n) := by show _ = _; rw [unhide HNN, ← unhide HF]; rfl
            clear hfb
            go_wp2_with fail
            exact ⟨⟨k + 1, n, rfl, by omega, by go_num, (unhide HE).symm, by omega, unhide HGQ⟩, by simp [intOf]; omega⟩
          · have HE : Hid (nlev (l.take (k + 1)) = n + 1) := by show _ = _; rw [unhide HNN, ← unhide HF]; rfl
            clear hfb
            go_wp2_with fail
            exact ⟨⟨k + 1, n + 1, by go_num, by omega, by go_num, (unhide HE).symm, by omega, unhide HGQ⟩, by simp [intOf]; omega⟩
    · go_wp2_with fail
      go_ret
      have h := unhide hnl
      rw [List.take_of_length_le (by omega)] at h
      subst h
      exact ⟨rfl, unhide HG⟩
end Go.Proofs.Ythmgkabpcjkieaa
namespace Go.Proofs.Ythmgkabpcjkieaa
open Go.RowKit
set_option linter.unusedVariables false

set_option maxRecDepth 100000 in
set_option maxHeartbeats 1600000 in
theorem specBookOK_any (next : Int) (v : Value) (l : List Od) (w : World) (hr : RdR Od.vs 6 w v l) (hg : ∀ c ∈ l, c.tag.size ≤ maxLen) :
    Calls Try.prog 18 #[.agg #[.int .i64 next, v]] w fun e w' => e = .returned (.bool (okS next l)) ∧ Below w.heap.size w w' := by
  have HR := hide hr
  have HGG := hide hg
  obtain ⟨a, cap, rfl, hlen, hc⟩ := hr
  have hcell : ∀ (k : Nat) (c : Od), l[k]? = some c → ∃ b off, a = some ⟨b, off, none⟩ ∧ b < w.heap.size ∧ w.rangeAt b (off + k * 6) c.vs := by
    intro k c hk
    obtain ⟨b, off, h1, h2, h3⟩ := hc (by intro h; rw [h] at hk; simp at hk)
    exact ⟨b, off, h1, h2, h3 k c hk⟩
  have HC := hide hcell
  clear hcell hc hg
  have HB0 : Hid (Below w.heap.size w (w.alloc (Obj.cells #[.int .i64 next, .slice a l.length cap] 26))) := (Below.refl _ _).alloc (Nat.le_refl _) _
  have hbx := cells_made w [.int .i64 next, .slice a l.length cap] 26
  have HX : Hid (World.rangeAt (w.alloc (Obj.cells #[.int .i64 next, .slice a l.length cap] 26)) w.heap.size 0 [.int .i64 next, .slice a l.length cap] ∧ w.heap.size < (w.alloc (Obj.cells #[.int .i64 next, .slice a l.length cap] 26)).heap.size) := ⟨hbx, by rw [size_made]; omega⟩
  clear hbx
  cases h1 : betB next 1 1000000
  · go_enter Try.func18, Try.ntmps18
    go_wp2_with fail
    refine (specIn_any next 1 1000000 _).mono ?_
    rintro e w1 ⟨rfl, rfl⟩
    go_wp2_with fail
    go_ret
    exact ⟨ret_bool (by simp [okS, h1]), unhide HB0⟩
  by_cases h2 : l.length ≤ 20
  rotate_left
  · have h2' : (20 : Int) < l.length := by omega
    go_enter Try.func18, Try.ntmps18
    go_wp2_with fail
    refine (specIn_any next 1 1000000 _).mono ?_
    rintro e w1 ⟨rfl, rfl⟩
    go_wp2_with fail
    go_ret
    exact ⟨ret_bool (by simp [okS, h1, h2]), unhide HB0⟩
  have h2' : ¬ ((20 : Int) < l.length) := by omega
  go_enter Try.func18, Try.ntmps18
  go_wp2_with fail
  refine (specIn_any next 1 1000000 _).mono ?_
  rintro e w1 ⟨rfl, rfl⟩
  go_wp2_with fail
  generalize (w.alloc (Obj.cells #[.int .i64 next, .slice a l.length cap] 26)) = W1 at HB0 HX ⊢
  have hsw := (unhide HX).2
  go_loopw [3] (fun iv wr => ∃ (i : Nat) (last : Int), i ≤ l.length ∧ iv = .int .i64 i ∧ Hid (allR next 0 l = allR next last (l.drop i)) ∧ 0 ≤ last ∧ (i = 0 → last = 0) ∧ (∀ j, i = j + 1 → ∃ p, l[j]? = some p ∧ p.id = last) ∧ Below W1.heap.size W1 wr) (fun iv _ => l.length - (intOf iv).toNat)
  case atStart => exact ⟨0, 0, Nat.zero_le _, rfl, rfl, Int.le_refl _, fun _ => rfl, fun j hj => by omega, Below.refl _ _⟩
  case round =>
    obtain ⟨i, last, hi, rfl, hall, hl0, hz, hp, hbel⟩ := hrel
    have HB := hide hbel
    have HP := hide hp
    have hbox := range_below (unhide HX).1 hbel hsw
    have x0 : wr.cell? ⟨w.heap.size, 0, none⟩ = some (.int .i64 next) := hbox 0 _ rfl
    have x1 : wr.cell? ⟨w.heap.size, 1, none⟩ = some (.slice a l.length cap) := hbox 1 _ rfl
    have HBOX := hide hbox
    clear hbel hp hbox
    by_cases hlt : i < l.length
    · obtain ⟨c, hkc⟩ : ∃ c, l[i]? = some c := ⟨_, List.getElem?_eq_getElem hlt⟩
      have hdr : l.drop i = c :: l.drop (i + 1) := by
        obtain ⟨h1, rfl⟩ := List.getElem?_eq_some_iff.1 hkc
        exact List.drop_eq_getElem_cons h1
      have HI : Hid (allR next 0 l = (ordB c && decide (last < c.id) && decide (c.id < next) && allR next c.id (l.drop (i + 1)))) := by
        have := unhide hall
        rw [hdr] at this
        exact this
      obtain ⟨b, off, rfl, hb, hcl⟩ := unhide HC i c hkc
      have hb01 := (unhide HB0).trans ((unhide HB).mono (unhide HB0).size)
      obtain ⟨g0, g1, g2, g3, g4, g5⟩ := od_cells (range_below hcl hb01 hb)
      have HS := hide (unhide HGG c (List.mem_of_getElem? hkc))
      have HKC := hide hkc
      have hlt' : (i : Int) < l.length := by omega
      have hszr := (unhide HB).size
      have HB01 := hide hb01
      clear hkc hcl hdr hall hb01
      go_wp2_with fail
      generalize hW4 : (wr.alloc (Obj.cells #[.int .i64 c.id, .int .i64 c.side, .int .i64 c.ticks, .int .i64 c.left, .int .i64 c.life, .string c.tag] 61)) = W4
      have HW4 : Hid (W4.rangeAt wr.heap.size 0 c.vs ∧ W4.rangeAt w.heap.size 0 [.int .i64 next, .slice (some ⟨b, off, none⟩) l.length cap] ∧ Below W1.heap.size W1 W4 ∧ W4.heap.size = wr.heap.size + 1 ∧ Below wr.heap.size wr W4) := by
        subst hW4
        have hbb : Below wr.heap.size wr (wr.alloc (Obj.cells #[.int .i64 c.id, .int .i64 c.side, .int .i64 c.ticks, .int .i64 c.left, .int .i64 c.life, .string c.tag] 61)) := (Below.refl _ _).alloc (Nat.le_refl _) _
        exact ⟨cells_made wr c.vs _, range_below (unhide HBOX) hbb (by omega), (unhide HB).alloc hszr _, size_made _ _, hbb⟩
      have HCEL : Hid (∀ w', W4.grownBy w' none → w'.rangeAt wr.heap.size 0 c.vs ∧ w'.rangeAt w.heap.size 0 [.int .i64 next, .slice (some ⟨b, off, none⟩) l.length cap]) := fun w' h' =>
        ⟨range_grown (unhide HW4).1 h' (by rw [(unhide HW4).2.2.2.1]; omega) (by simp), range_grown (unhide HW4).2.1 h' (by rw [(unhide HW4).2.2.2.1]; omega) (by simp)⟩
      have HPREV : Hid (∀ j p, i = j + 1 → l[j]? = some p → ∀ w', W4.grownBy w' none → w'.rangeAt b (off + j * 6) p.vs) := fun j p hj hpj w' h' => by
        obtain ⟨b', off', hbe, hb', hcl'⟩ := unhide HC j p hpj
        simp only [Option.some.injEq, Addr.mk.injEq, and_true] at hbe
        obtain ⟨rfl, rfl⟩ := hbe
        exact range_grown (range_below (range_below hcl' (unhide HB01) hb) (unhide HW4).2.2.2.2 (Nat.lt_of_lt_of_le hb (unhide HB01).size)) h' (by rw [(unhide HW4).2.2.2.1]; have := (unhide HB01).size; omega) (by simp)
      have HORD : Hid (∀ W, Calls Try.prog 41 #[.agg #[.int .i64 c.id, .int .i64 c.side, .int .i64 c.ticks, .int .i64 c.left, .int .i64 c.life, .string c.tag]] W fun e w' => e = .returned (.bool (ordB c)) ∧ W.grownBy w' none) := fun W => (l03Order_any c W (unhide HS)).mono fun e w' h => ⟨h.1, below_gr h.2 (Nat.le_refl _)⟩
      clear hW4 g0 g1 g2 g3 g4 g5 x0 x1
      haveI := gw_ne W4
      have k0 : ∀ u : GW W4, u.val.cell? ⟨wr.heap.size, 0, none⟩ = some (.int .i64 c.id) := fun u => (unhide HCEL u.val u.property).1 0 _ rfl
      have k1 : ∀ u : GW W4, u.val.cell? ⟨wr.heap.size, 1, none⟩ = some (.int .i64 c.side) := fun u => (unhide HCEL u.val u.property).1 1 _ rfl
      have k2 : ∀ u : GW W4, u.val.cell? ⟨wr.heap.size, 2, none⟩ = some (.int .i64 c.ticks) := fun u => (unhide HCEL u.val u.property).1 2 _ rfl
      have k3 : ∀ u : GW W4, u.val.cell? ⟨wr.heap.size, 3, none⟩ = some (.int .i64 c.left) := fun u => (unhide HCEL u.val u.property).1 3 _ rfl
      have k4 : ∀ u : GW W4, u.val.cell? ⟨wr.heap.size, 4, none⟩ = some (.int .i64 c.life) := fun u => (unhide HCEL u.val u.property).1 4 _ rfl
      have k5 : ∀ u : GW W4, u.val.cell? ⟨wr.heap.size, 5, none⟩ = some (.string c.tag) := fun u => (unhide HCEL u.val u.property).1 5 _ rfl
      have m0 : ∀ u : GW W4, u.val.cell? ⟨w.heap.size, 0, none⟩ = some (.int .i64 next) := fun u => (unhide HCEL u.val u.property).2 0 _ rfl
      have m1 : ∀ u : GW W4, u.val.cell? ⟨w.heap.size, 1, none⟩ = some (.slice (some ⟨b, off, none⟩) l.length cap) := fun u => (unhide HCEL u.val u.property).2 1 _ rfl
      cases ho : ordB c
      · have HN : Hid (allR next 0 l = false) := by
          show _ = _
          rw [unhide HI, ho]; simp
        refine wp_region_gw (W := W4) (by kernel_rfl) (by kernel_rfl) (World.grownBy.refl _ _) ?_
        repeat (go_big_quiet_step ((rename_i u; refine (unhide HORD u.val).mono ?_; rintro e w3 ⟨rfl, hg3⟩; exact ⟨rfl, ⟨w3, u.property.trans hg3⟩, rfl⟩)))
        refine wpQuiet_nil ?_
        rintro _ ⟨⟨w5, hg5⟩, rfl⟩
        have HB5 := hide ((unhide HW4).2.2.1.grown hg5 (by rw [(unhide HW4).2.2.2.1]; omega) (fun g hg => by cases hg))
        clear hg5
        go_wp2_with fail
        go_ret
        exact ⟨ret_bool (by rw [okS, unhide HN]; simp), (unhide HB0).trans ((unhide HB5).mono (unhide HB0).size)⟩
      by_cases hc1 : c.id < 1
      · have hlc : ¬ last < c.id := by omega
        have hd1 : decide (c.id < 1) = true := by simpa using hc1
        have HN : Hid (allR next 0 l = false) := by
          show _ = _
          rw [unhide HI, decide_eq_false hlc]; simp
        refine wp_region_gw (W := W4) (by kernel_rfl) (by kernel_rfl) (World.grownBy.refl _ _) ?_
        repeat (go_big_quiet_step ((rename_i u; refine (unhide HORD u.val).mono ?_; rintro e w3 ⟨rfl, hg3⟩; exact ⟨rfl, ⟨w3, u.property.trans hg3⟩, rfl⟩)))
        refine wpQuiet_nil ?_
        rintro _ ⟨⟨w5, hg5⟩, rfl⟩
        have HB5 := hide ((unhide HW4).2.2.1.grown hg5 (by rw [(unhide HW4).2.2.2.1]; omega) (fun g hg => by cases hg))
        clear hg5
        go_wp2_with fail
        go_ret
        exact ⟨ret_bool (by rw [okS, unhide HN]; simp), (unhide HB0).trans ((unhide HB5).mono (unhide HB0).size)⟩
      have hd1 : decide (c.id < 1) = false := by simpa using hc1
      by_cases hcn : c.id < next
      rotate_left
      · have hd2 : decide (next ≤ c.id) = true := by simp; omega
        have HN : Hid (allR next 0 l = false) := by
          show _ = _
          rw [unhide HI, decide_eq_false hcn]; simp
        refine wp_region_gw (W := W4) (by kernel_rfl) (by kernel_rfl) (World.grownBy.refl _ _) ?_
        repeat (go_big_quiet_step ((rename_i u; refine (unhide HORD u.val).mono ?_; rintro e w3 ⟨rfl, hg3⟩; exact ⟨rfl, ⟨w3, u.property.trans hg3⟩, rfl⟩)))
        refine wpQuiet_nil ?_
        rintro _ ⟨⟨w5, hg5⟩, rfl⟩
        have HB5 := hide ((unhide HW4).2.2.1.grown hg5 (by rw [(unhide HW4).2.2.2.1]; omega) (fun g hg => by cases hg))
        clear hg5
        go_wp2_with fail
        go_ret
        exact ⟨ret_bool (by rw [okS, unhide HN]; simp), (unhide HB0).trans ((unhide HB5).mono (unhide HB0).size)⟩
      have hd2 : decide (next ≤ c.id) = false := by simpa using hcn
      cases i with
      | zero =>
        have hlc : last < c.id := by have := hz rfl; omega
        have HN : Hid (allR next 0 l = allR next c.id (l.drop (0 + 1))) := by
          show _ = _
          rw [unhide HI, ho, decide_eq_true hlc, decide_eq_true hcn]; rfl
        refine wp_region_gw (W := W4) (by kernel_rfl) (by kernel_rfl) (World.grownBy.refl _ _) ?_
        repeat (go_big_quiet_step ((rename_i u; refine (unhide HORD u.val).mono ?_; rintro e w3 ⟨rfl, hg3⟩; exact ⟨rfl, ⟨w3, u.property.trans hg3⟩, rfl⟩)))
        refine wpQuiet_nil ?_
        rintro _ ⟨⟨w5, hg5⟩, rfl⟩
        have HB5 := hide ((unhide HW4).2.2.1.grown hg5 (by rw [(unhide HW4).2.2.2.1]; omega) (fun g hg => by cases hg))
        clear hg5
        go_wp2_with fail
        go_roundw
        case rel => exact ⟨0 + 1, c.id, by omega, by go_num, unhide HN, by omega, fun h => by omega, fun j' hj' => ⟨c, by rw [show j' = 0 by omega]; exact unhide HKC, rfl⟩, unhide HB5⟩
        case measure => simp [intOf]; omega
      | succ j =>
        obtain ⟨p, hpj, hpl⟩ := unhide HP j rfl
        have q0 : ∀ u : GW W4, u.val.cell? ⟨b, off + j * 6, none⟩ = some (.int .i64 p.id) := fun u => (od_cells (unhide HPREV j p rfl hpj u.val u.property)).1
        have hij : ((j + 1 : Nat) : Int) = (j : Int) + 1 := by omega
        have hjl : (j : Int) < l.length := by omega
        have hwj : IntKind.i64.wrap ((j : Int) + 1 - 1) = (j : Int) := by rw [IntKind.wrap_i64]; omega
        have hpos : decide ((0 : Int) < (j : Int) + 1) = true := by rw [decide_eq_true_eq]; omega
        clear hpj
        by_cases hlc : last < c.id
        · have hd3 : decide (c.id ≤ p.id) = false := by rw [hpl]; simpa using hlc
          have HN : Hid (allR next 0 l = allR next c.id (l.drop ((j + 1) + 1))) := by
            show _ = _
            rw [unhide HI, ho, decide_eq_true hlc, decide_eq_true hcn]; rfl
          refine wp_region_gw (W := W4) (by kernel_rfl) (by kernel_rfl) (World.grownBy.refl _ _) ?_
          repeat (go_big_quiet_step ((rename_i u; refine (unhide HORD u.val).mono ?_; rintro e w3 ⟨rfl, hg3⟩; exact ⟨rfl, ⟨w3, u.property.trans hg3⟩, rfl⟩)))
          refine wpQuiet_nil ?_
          rintro _ ⟨⟨w5, hg5⟩, rfl⟩
          have HB5 := hide ((unhide HW4).2.2.1.grown hg5 (by rw [(unhide HW4).2.2.2.1]; omega) (fun g hg => by cases hg))
          clear hg5
          go_wp2_with fail
          go_roundw
          case rel => exact ⟨(j + 1) + 1, c.id, by omega, by go_num, unhide HN, by omega, fun h => by omega, fun j' hj' => ⟨c, by rw [show j' = (j + 1) by omega]; exact unhide HKC, rfl⟩, unhide HB5⟩
          case measure => simp [intOf]; omega
        · have hd3 : decide (c.id ≤ p.id) = true := by rw [hpl]; simpa using hlc
          have HN : Hid (allR next 0 l = false) := by
            show _ = _
            rw [unhide HI, decide_eq_false hlc]; simp
          refine wp_region_gw (W := W4) (by kernel_rfl) (by kernel_rfl) (World.grownBy.refl _ _) ?_
          repeat (go_big_quiet_step ((rename_i u; refine (unhide HORD u.val).mono ?_; rintro e w3 ⟨rfl, hg3⟩; exact ⟨rfl, ⟨w3, u.property.trans hg3⟩, rfl⟩)))
          refine wpQuiet_nil ?_
          rintro _ ⟨⟨w5, hg5⟩, rfl⟩
          have HB5 := hide ((unhide HW4).2.2.1.grown hg5 (by rw [(unhide HW4).2.2.2.1]; omega) (fun g hg => by cases hg))
          clear hg5
          go_wp2_with fail
          go_ret
          exact ⟨ret_bool (by rw [okS, unhide HN]; simp), (unhide HB0).trans ((unhide HB5).mono (unhide HB0).size)⟩
    · have hallT : allR next 0 l = true := by
        have h := unhide hall
        rw [List.drop_of_length_le (by omega)] at h
        rw [h]; rfl
      have HALL := hide hallT
      have HRI := hide (allR_rising hallT).1
      have HB01 := hide ((unhide HB0).trans ((unhide HB).mono (unhide HB0).size))
      have HRr := hide (rdR_below (unhide HR) (unhide HB01) (Nat.le_refl _))
      have hszr : w.heap.size < wr.heap.size := Nat.lt_of_lt_of_le hsw (unhide HB).size
      clear hall hallT
      go_wp2_with fail
      refine (l03Levels_any _ l wr (unhide HRr) (by omega)).mono ?_
      rintro e w3 ⟨rfl, hg3⟩
      have HG3 := hide hg3
      have z1 : w3.cell? ⟨w.heap.size, 1, none⟩ = some (.slice a l.length cap) := hg3.cell x1 (by simp)
      have HR3 := hide (rdR_grown (unhide HRr) hg3 (fun g hg => by cases hg))
      clear hg3 x0 x1
      by_cases h8 : nlev l ≤ 8
      rotate_left
      · have h8' : (8 : Int) < (nlev l : Nat) := by omega
        go_wp2_with fail
        go_ret
        refine ⟨ret_bool (by simp [okS, h8]), ?_⟩
        exact (unhide HB01).trans ((gr_below' (unhide HG3) (fun g hg => by cases hg) (Nat.le_refl _)).mono (unhide HB01).size)
      have h8' : ¬ ((8 : Int) < (nlev l : Nat)) := by omega
      have HOK : Hid (okS next l = noX l) := by
        show _ = _
        rw [okS, h1, decide_eq_true h2, unhide HALL, decide_eq_true h8]; rfl
      go_wp2_with fail
      refine (l03Front_any _ l 1 w3 (unhide HR3) (unhide HRI) (by omega)).mono ?_
      rintro e w4 ⟨kb, rfl, hf1, hg4⟩
      have HG4 := hide ((unhide HG3).trans hg4)
      have y1 : w4.cell? ⟨w.heap.size, 1, none⟩ = some (.slice a l.length cap) := hg4.cell z1 (by simp)
      have HR4 := hide (rdR_grown (unhide HR3) hg4 (fun g hg => by cases hg))
      have HF1 := hide hf1
      clear hg4 hf1 z1
      go_wp2_with fail
      refine (l03Front_any _ l 2 w4 (unhide HR4) (unhide HRI) (by omega)).mono ?_
      rintro e w5 ⟨ks, rfl, hf2, hg5⟩
      have HG5 := hide ((unhide HG4).trans hg5)
      have v1 : w5.cell? ⟨w.heap.size, 1, none⟩ = some (.slice a l.length cap) := hg5.cell y1 (by simp)
      have HF2 := hide hf2
      have HBE := hide ((unhide HB01).trans ((gr_below' (unhide HG5) (fun g hg => by cases hg) (Nat.le_refl _)).mono (unhide HB01).size))
      clear hg5 hf2 y1
      rcases frPre_end (unhide HF1) with ⟨rfl, hno1⟩ | ⟨ib, ob, rfl, hib, hfb⟩
      · have HN := hide (noX_none1 hno1)
        clear hno1
        go_wp2_with fail
        go_quiet (fail)
        go_wp2_with fail
        go_ret
        exact ⟨ret_bool (by rw [unhide HOK, unhide HN]), ⟨(unhide HBE).os, (unhide HBE).tape, (unhide HBE).output, (unhide HBE).size, (unhide HBE).block⟩⟩
      have hib0 : decide ((ib : Int) < 0) = false := by simp
      rcases frPre_end (unhide HF2) with ⟨rfl, hno2⟩ | ⟨is, os, rfl, his, hfs⟩
      · have HN := hide (noX_none2 hno2)
        clear hno2
        go_wp2_with fail
        go_quiet (fail)
        go_wp2_with fail
        go_ret
        exact ⟨ret_bool (by rw [unhide HOK, unhide HN]), ⟨(unhide HBE).os, (unhide HBE).tape, (unhide HBE).output, (unhide HBE).size, (unhide HBE).block⟩⟩
      have his0 : decide ((is : Int) < 0) = false := by simp
      have HN := hide (noX_fronts hfb hfs)
      obtain ⟨b, off, rfl, hb, hcb⟩ := unhide HC ib ob hfb.1
      obtain ⟨b', off', hbe, hb', hcs⟩ := unhide HC is os hfs.1
      simp only [Option.some.injEq, Addr.mk.injEq, and_true] at hbe
      obtain ⟨rfl, rfl⟩ := hbe
      obtain ⟨-, -, t1, -⟩ := od_cells (range_below hcb (unhide HBE) hb)
      obtain ⟨-, -, t2, -⟩ := od_cells (range_below hcs (unhide HBE) hb)
      have hib' : (ib : Int) < l.length := by omega
      have his' : (is : Int) < l.length := by omega
      clear hfb hfs hcb hcs
      go_wp2_with fail
      go_quiet (fail)
      go_wp2_with fail
      go_ret
      exact ⟨ret_bool (by rw [unhide HOK, unhide HN]), ⟨(unhide HBE).os, (unhide HBE).tape, (unhide HBE).output, (unhide HBE).size, (unhide HBE).block⟩⟩
end Go.Proofs.Ythmgkabpcjkieaa
