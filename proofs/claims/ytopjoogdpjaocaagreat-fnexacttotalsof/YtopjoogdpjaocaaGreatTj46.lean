/-
  The totals of groups, by the model: proved by walking the function.
-/
import Derived.Test.YtopjoogdpjaocaaGreatTj45
set_option linter.unusedVariables false
set_option maxHeartbeats 6400000
set_option maxRecDepth 100000
namespace Go.Proofs.YtopjoogdpjaocaaGreat
open Go.RowKit
set_option maxRecDepth 100000 in
set_option maxHeartbeats 3200000 in
theorem l04Cmd_all (e:Ev) (w:World):Calls Tryz.prog 11 #[evV e] w fun r w'=>r = .returned (.tuple #[cmV (toldE e),.bool (zbI e.kind)])∧Below w.heap.size w w':=by
 have hsf:=sfl
 obtain ⟨kind,⟨ck,cs,ct,cl,cq,ci,cp,cg⟩,id,other,qty,price,reason⟩:=e
 unfold evV toldE cmV zCm zbI
 simp only
 by_cases hk:kind = 1 ∨ kind = 2 ∨ kind = 6 ∨ kind = 7 ∨ kind = 8
 ·rcases hk with rfl | rfl | rfl | rfl | rfl
  all_goals
   simp
   go_enter Tryz.func11,Tryz.ntmps11
   go_wp2_with fail
   go_returns
   exact ⟨rfl,by go_grown⟩
 ·have h1:(kind == 1) = false:=by simp; omega
  have h2:(kind == 2) = false:=by simp; omega
  have h6:(kind == 6) = false:=by simp; omega
  have h7:(kind == 7) = false:=by simp; omega
  have h8:(kind == 8) = false:=by simp; omega
  rw [if_neg (by omega),if_neg (by omega),if_neg (by omega),if_neg (by omega),if_neg (by omega),h1,h2,h6,h7,h8]
  clear hk
  simp
  go_enter Tryz.func11,Tryz.ntmps11
  go_wp2_with fail
  go_returns
  exact ⟨rfl,by go_grown⟩
theorem sameE_comm (a b:Ev):zbr a b = zbr b a:=by
 have h:∀ x y:Int,(x == y) = (y == x):=fun x y=>by rw [Bool.eq_iff_iff,beq_iff_eq,beq_iff_eq]; exact eq_comm
 have h':∀ x y:Nat,(x == y) = (y == x):=fun x y=>by rw [Bool.eq_iff_iff,beq_iff_eq,beq_iff_eq]; exact eq_comm
 unfold zbr
 rw [h a.kind,h a.id,h a.other,h a.qty,h a.price,h a.reason,h a.cmd.k,h a.cmd.s,h a.cmd.t,h a.cmd.l,h a.cmd.q,h a.cmd.i,h' (fbit a.cmd.p)]
 simp only [eq_comm (a:=a.cmd.g.toList)]
theorem bx_size {W:World} {b:Nat} {v:Value} {vs:List Value} (h:Bx W b (v :: vs)):b < W.heap.size:=World.block_lt_of_cell? W _ (zd h 0 rfl)
theorem gsB_cons (a b:List Ev) (x y:List (List Ev)):gsB (a :: x) (b :: y) = (esB a b && gsB x y):=by rw [gsB]
theorem esB_cons (a b:Ev) (x y:List Ev):esB (a :: x) (b :: y) = (zbr a b && esB x y):=by rw [esB]
set_option maxRecDepth 100000 in
set_option maxHeartbeats 6400000 in
theorem specTotalsOf_any (vg:Value) (gs:List (List Ev)) (w:World) (hr:RdG w vg gs) (htg:∀ g ∈ gs,∀ e ∈ g,e.cmd.g.size ≤ maxLen) :
  Calls Tryz.prog 5 #[vg] w fun e w'=>e = .returned (.tuple #[totV (ttF gs).1,.int .i64 (ttF gs).2])∧Below w.heap.size w w':=by
 have HTG:=hide htg
 obtain ⟨ag,cg,rfl,hln,hca⟩:=hr
 have hcell:∀ (k:Nat) (es:List Ev),gs[k]? = some es→∃ b off ga gc,ag = some ⟨b,off,none⟩∧b < w.heap.size∧w.cell? ⟨b,off + k,none⟩ = some (.slice ga es.length gc)∧RdR Ev.vs 14 w (.slice ga es.length gc) es:=by
  intro k es hk
  obtain ⟨b,off,h1,h2,h3⟩:=hca (by intro h; rw [h] at hk; simp at hk)
  obtain ⟨g,h4,h5⟩:=h3 k es hk
  obtain ⟨ga,gc,rfl,_⟩:=id h5
  exact ⟨b,off,ga,gc,h1,h2,h4,h5⟩
 have HC:=hide hcell
 clear hcell hca htg
 have hsf:=sfl
 obtain ⟨i0,hi,hz0,hz1,hz2⟩:=info_parts Tryz.infoCmdD
 have HT0:=hide (zaK w [.int .i64 0,.int .i64 0,.int .i64 0,.int .i64 0,.int .i64 0,.int .i64 0,.int .i64 0,.int .i64 0] 25)
 have HB0:Hid (Below w.heap.size w (w.alloc (Obj.cells #[.int .i64 0,.int .i64 0,.int .i64 0,.int .i64 0,.int .i64 0,.int .i64 0,.int .i64 0,.int .i64 0] 25))):=(Below.refl _ _).alloc (Nat.le_refl _) _
 have hs0:(w.alloc (Obj.cells #[.int .i64 0,.int .i64 0,.int .i64 0,.int .i64 0,.int .i64 0,.int .i64 0,.int .i64 0,.int .i64 0] 25)).heap.size = w.heap.size + 1:=ze _ _
 have HF:=hide (ttF.eq_1 gs)
 generalize ttF gs = R at HF ⊢
 go_enter Tryz.func5,Tryz.ntmps5
 refine wp_seq_k fun K hK=>?_
 have HK1:=hide hK
 clear hK
 go_wp2_with fail
 refine za HK1 _ _ ?_
 clear HK1
 change Hid (Bx (w.alloc (Obj.cells #[.int .i64 0,.int .i64 0,.int .i64 0,.int .i64 0,.int .i64 0,.int .i64 0,.int .i64 0,.int .i64 0] 25)) w.heap.size [.int .i64 0,.int .i64 0,.int .i64 0,.int .i64 0,.int .i64 0,.int .i64 0,.int .i64 0,.int .i64 0]) at HT0
 generalize (w.alloc (Obj.cells #[.int .i64 0,.int .i64 0,.int .i64 0,.int .i64 0,.int .i64 0,.int .i64 0,.int .i64 0,.int .i64 0] 25)) = W0 at HT0 HB0 hs0 ⊢
 by_cases h1:4096 < gs.length
 ·have h1':(4096:Int) < gs.length:=by omega
  have HE:R = (tot0,2):=by rw [za HF,cntF,if_pos h1,if_pos (by decide)]
  subst HE
  clear h1 hi hz0 hz1 hz2
  obtain ⟨t0,t1,t2,t3,t4,t5,t6,t7⟩:=t8c (za HT0)
  have z0:=zg (za HT0) 0 (by show 0 < 8; omega)
  have z1:=zg (za HT0) 1 (by show 1 < 8; omega)
  have z2:=zg (za HT0) 2 (by show 2 < 8; omega)
  have z3:=zg (za HT0) 3 (by show 3 < 8; omega)
  have z4:=zg (za HT0) 4 (by show 4 < 8; omega)
  have z5:=zg (za HT0) 5 (by show 5 < 8; omega)
  have z6:=zg (za HT0) 6 (by show 6 < 8; omega)
  have z7:=zg (za HT0) 7 (by show 7 < 8; omega)
  have HSC:Hid (Bx (W0.setCells w.heap.size 0 [.int .i64 0,.int .i64 0,.int .i64 0,.int .i64 0,.int .i64 0,.int .i64 0,.int .i64 0,.int .i64 0]) w.heap.size [.int .i64 0,.int .i64 0,.int .i64 0,.int .i64 0,.int .i64 0,.int .i64 0,.int .i64 0,.int .i64 0]):=zad (za HT0) rfl
  have HEM:Hid (Below w.heap.size w (W0.setCells w.heap.size 0 [.int .i64 0,.int .i64 0,.int .i64 0,.int .i64 0,.int .i64 0,.int .i64 0,.int .i64 0,.int .i64 0])):=zao (za HB0) (Nat.le_refl _) _
  go_wp2_with fail
  change bodyPost _ _ _ _ _ (W0.setCells w.heap.size 0 [.int .i64 0,.int .i64 0,.int .i64 0,.int .i64 0,.int .i64 0,.int .i64 0,.int .i64 0,.int .i64 0])
  generalize W0.setCells w.heap.size 0 [.int .i64 0,.int .i64 0,.int .i64 0,.int .i64 0,.int .i64 0,.int .i64 0,.int .i64 0,.int .i64 0] = WF at HSC HEM ⊢
  obtain ⟨d0,d1,d2,d3,d4,d5,d6,d7⟩:=t8c (za HSC)
  refine bodyPost_ret (by simp [results,Tryz.results5,go_sem,d0,d1,d2,d3,d4,d5,d6,d7]; try rfl) rfl ?_
  exact ⟨rfl,za HEM⟩
 have h1':¬ ((4096:Int) < gs.length):=by omega
 refine wp_seq_k fun K hK=>?_
 have HK1:=hide hK
 clear hK
 go_wp2_with fail
 refine za HK1 _ _ ?_
 clear HK1
 have HO1:Hid (World.ownsRow (W0.alloc (Obj.cells #[] 39)) (w.heap.size + 1) 39 8 (.slice (some ⟨w.heap.size + 1,0,none⟩) 0 0) 0 []):=hide (by
  have h:=World.ownsRow_made (base:=w.heap.size + 1) (e:=39) (size:=8) W0 #[] 0 (by omega) (by decide) rfl
  rw [hs0] at h
  exact h)
 have HAL:Hid (Below W0.heap.size W0 (W0.alloc (Obj.cells #[] 39))):=(Below.refl _ _).alloc (Nat.le_refl _) _
 have HT1:=hide (zP (za HT0) (za HAL) (by omega))
 have HB1:=hide ((za HB0).trans ((za HAL).mono (za HB0).size))
 refine wp_seq_k fun K hK=>?_
 have HK1:=hide hK
 clear hK
 go_wp2_with fail
 refine za HK1 _ _ ?_
 clear HK1
 generalize (W0.alloc (Obj.cells #[] 39)) = W1 at HT1 HB1 HO1 ⊢
 clear HT0 HB0 HAL hs0
 by_cases h2:200 < gs.length
 ·have h2':(200:Int) < gs.length:=by omega
  have HE:R = (tot0,7):=by rw [za HF,cntF,if_neg h1,if_pos h2,if_pos (by decide)]
  subst HE
  clear h2 h1 hi hz0 hz1 hz2 HO1
  obtain ⟨t0,t1,t2,t3,t4,t5,t6,t7⟩:=t8c (za HT1)
  have z0:=zg (za HT1) 0 (by show 0 < 8; omega)
  have z1:=zg (za HT1) 1 (by show 1 < 8; omega)
  have z2:=zg (za HT1) 2 (by show 2 < 8; omega)
  have z3:=zg (za HT1) 3 (by show 3 < 8; omega)
  have z4:=zg (za HT1) 4 (by show 4 < 8; omega)
  have z5:=zg (za HT1) 5 (by show 5 < 8; omega)
  have z6:=zg (za HT1) 6 (by show 6 < 8; omega)
  have z7:=zg (za HT1) 7 (by show 7 < 8; omega)
  have HSC:Hid (Bx (W1.setCells w.heap.size 0 [.int .i64 0,.int .i64 0,.int .i64 0,.int .i64 0,.int .i64 0,.int .i64 0,.int .i64 0,.int .i64 0]) w.heap.size [.int .i64 0,.int .i64 0,.int .i64 0,.int .i64 0,.int .i64 0,.int .i64 0,.int .i64 0,.int .i64 0]):=zad (za HT1) rfl
  have HEM:Hid (Below w.heap.size w (W1.setCells w.heap.size 0 [.int .i64 0,.int .i64 0,.int .i64 0,.int .i64 0,.int .i64 0,.int .i64 0,.int .i64 0,.int .i64 0])):=zao (za HB1) (Nat.le_refl _) _
  go_wp2_with fail
  change bodyPost _ _ _ _ _ (W1.setCells w.heap.size 0 [.int .i64 0,.int .i64 0,.int .i64 0,.int .i64 0,.int .i64 0,.int .i64 0,.int .i64 0,.int .i64 0])
  generalize W1.setCells w.heap.size 0 [.int .i64 0,.int .i64 0,.int .i64 0,.int .i64 0,.int .i64 0,.int .i64 0,.int .i64 0,.int .i64 0] = WF at HSC HEM ⊢
  obtain ⟨d0,d1,d2,d3,d4,d5,d6,d7⟩:=t8c (za HSC)
  refine bodyPost_ret (by simp [results,Tryz.results5,go_sem,d0,d1,d2,d3,d4,d5,d6,d7]; try rfl) rfl ?_
  exact ⟨rfl,za HEM⟩
 have h2':¬ ((200:Int) < gs.length):=by omega
 have HF2:Hid (R = match tolL gs with | none=>(tot0,3) | some ts=>if gsB (rsF ts).g gs = true then ((rsF ts).t,0) else (tot0,8)):=hide (by rw [za HF,cntF,if_neg h1,if_neg h2,if_neg (by decide)]; rfl)
 clear HF h1 h1'
 refine wp_seq_k fun K hK=>?_
 have HK1:=hide hK
 clear hK
 go_wp2_with fail
 refine za HK1 _ _ ?_
 clear HK1
 refine wp_seq_k fun K hK=>?_
 have HK1:=hide hK
 clear hK
 go_wp2_with fail
 go_loopw [4,5] (fun ov iv wr=>∃ (cs:List Cm) (k:Nat),k ≤ gs.length∧iv = .int .i64 k∧cs.length = k∧Hid (tolL gs = (tolL (gs.drop k)).map (cs ++ ·))∧wr.ownsRow (w.heap.size + 1) 39 8 ov cs.length (cs.flatMap Cm.vs)∧Bx wr w.heap.size [.int .i64 0,.int .i64 0,.int .i64 0,.int .i64 0,.int .i64 0,.int .i64 0,.int .i64 0,.int .i64 0]∧Below w.heap.size w wr) (fun _ iv _=>gs.length - (intOf iv).toNat)
 case atStart=>exact ⟨[],0,Nat.zero_le _,rfl,rfl,by simp [Hid],za HO1,za HT1,za HB1⟩
 case round =>
  obtain ⟨cs,k,hk,rfl,hck,hto,hown,hbx,hbel⟩:=hrel
  have HOW:=hide hown
  have HB:=hide hbel
  have HT:=hide hbx
  have HCK:=hide hck
  have hws:=bx_size hbx
  obtain ⟨ao,co,rfl⟩:=zbC hown
  clear hown hbel hbx HT1 HB1 HO1
  by_cases hlt:k < gs.length
  ·obtain ⟨es,hes⟩:∃ es,gs[k]? = some es:=⟨_,List.getElem?_eq_getElem hlt⟩
   obtain ⟨b,off,ga,gc,rfl,hb,hcl,hre⟩:=za HC k es hes
   have g0:=((za HB).cell (p:=⟨b,off + k,none⟩) hb).trans hcl
   have hlt':(k:Int) < gs.length:=by omega
   have HTO:Hid (tolL gs = (tolL (es :: gs.drop (k + 1))).map (cs ++ ·)):=by
    have:=za hto
    rw [dropX hes] at this
    exact this
   clear hto hcl hes
   cases es with
   | nil =>
    have HN:tolL gs = none:=by have:=za HTO; rw [tolL] at this; exact this
    have HE:R = (tot0,3):=by rw [za HF2,HN]
    subst HE
    simp only [List.length_nil] at g0
    clear hck HN HF2 HTO hi hz0 hz1 hz2 HK1
    obtain ⟨t0,t1,t2,t3,t4,t5,t6,t7⟩:=t8c (za HT)
    have z0:=zg (za HT) 0 (by show 0 < 8; omega)
    have z1:=zg (za HT) 1 (by show 1 < 8; omega)
    have z2:=zg (za HT) 2 (by show 2 < 8; omega)
    have z3:=zg (za HT) 3 (by show 3 < 8; omega)
    have z4:=zg (za HT) 4 (by show 4 < 8; omega)
    have z5:=zg (za HT) 5 (by show 5 < 8; omega)
    have z6:=zg (za HT) 6 (by show 6 < 8; omega)
    have z7:=zg (za HT) 7 (by show 7 < 8; omega)
    have HSC:Hid (Bx (wr.setCells w.heap.size 0 [.int .i64 0,.int .i64 0,.int .i64 0,.int .i64 0,.int .i64 0,.int .i64 0,.int .i64 0,.int .i64 0]) w.heap.size [.int .i64 0,.int .i64 0,.int .i64 0,.int .i64 0,.int .i64 0,.int .i64 0,.int .i64 0,.int .i64 0]):=zad (za HT) rfl
    have HEM:Hid (Below w.heap.size w (wr.setCells w.heap.size 0 [.int .i64 0,.int .i64 0,.int .i64 0,.int .i64 0,.int .i64 0,.int .i64 0,.int .i64 0,.int .i64 0])):=zao (za HB) (Nat.le_refl _) _
    go_wp2_with fail
    change bodyPost _ _ _ _ _ (wr.setCells w.heap.size 0 [.int .i64 0,.int .i64 0,.int .i64 0,.int .i64 0,.int .i64 0,.int .i64 0,.int .i64 0,.int .i64 0])
    generalize wr.setCells w.heap.size 0 [.int .i64 0,.int .i64 0,.int .i64 0,.int .i64 0,.int .i64 0,.int .i64 0,.int .i64 0,.int .i64 0] = WF at HSC HEM ⊢
    obtain ⟨d0,d1,d2,d3,d4,d5,d6,d7⟩:=t8c (za HSC)
    refine bodyPost_ret (by simp [results,Tryz.results5,go_sem,d0,d1,d2,d3,d4,d5,d6,d7]; try rfl) rfl ?_
    exact ⟨rfl,za HEM⟩
   | cons x xs =>
    obtain ⟨eb,eo,rfl,hxr⟩:∃ eb eo,ga = some ⟨eb,eo,none⟩∧wr.rangeAt eb (eo + 0 * 14) x.vs:=by
     obtain ⟨a1,c1,e1,-,h1⟩:=hre
     simp only [Value.slice.injEq,true_and] at e1
     obtain ⟨b,off,h2,h2',h3⟩:=h1 (by simp)
     exact ⟨b,off,e1.1.trans h2,zb (h3 0 x rfl) (za HB) h2'⟩
    obtain ⟨g0',g1',g2',g3',g4',g5',g6',g7',g8',g9',g10',g11',g12',g13'⟩:=zal hxr
    simp only [Nat.zero_mul,Nat.add_zero] at g0' g1' g2' g3' g4' g5' g6' g7' g8' g9' g10' g11' g12' g13'
    have hx0:((x :: xs).length:Int) ≠ 0:=by simp only [List.length_cons]; omega
    have hx1:(0:Int) < ((x :: xs).length:Nat):=by simp only [List.length_cons]; omega
    generalize hln:(x :: xs).length = ln at g0 hx0 hx1
    have hlb:((ln:Int) == 0) = false:=by simpa using hx0
    have HTO2:Hid (tolL gs = (if zbI x.kind = true then (tolL (gs.drop (k + 1))).map (toldE x :: ·) else none).map (cs ++ ·)):=by have:=za HTO; rw [tolL] at this; exact this
    clear hre hxr HTO hln hx0 hck
    go_wp2_with fail
    refine (l04Cmd_all x wr).mono ?_
    rintro e w3 ⟨rfl,hb3⟩
    have HB3:=hide ((za HB).trans (hb3.mono (za HB).size))
    have HO3:=hide (own_keep (za HOW) hb3)
    have HT3:=hide (zP (za HT) hb3 hws)
    have hws3:w.heap.size < w3.heap.size:=Nat.lt_of_lt_of_le hws hb3.size
    generalize toldE x = c at HTO2 ⊢
    obtain ⟨ck,c1,ct,cl,cq,ci,cp,cgg⟩:=c
    unfold cmV
    simp only
    clear hb3 g0' g1' g2' g3' g4' g5' g6' g7' g8' g9' g10' g11' g12' g13' g0 HT HB HOW hws
    have HBA:Hid (Below w.heap.size w (w3.alloc (Obj.cells #[.int .i64 ck,.int .i64 c1,.int .i64 ct,.int .i64 cl,.int .i64 cq,.int .i64 ci,.float .f64 cp,.string cgg] 39))):=(za HB3).alloc (za HB3).size _
    have HTA:Hid (Bx (w3.alloc (Obj.cells #[.int .i64 ck,.int .i64 c1,.int .i64 ct,.int .i64 cl,.int .i64 cq,.int .i64 ci,.float .f64 cp,.string cgg] 39)) w.heap.size [.int .i64 0,.int .i64 0,.int .i64 0,.int .i64 0,.int .i64 0,.int .i64 0,.int .i64 0,.int .i64 0]):=hide (zP (za HT3) ((Below.refl w3.heap.size w3).alloc (Nat.le_refl _) _) hws3)
    cases hst:zbI x.kind
    ·have HN:tolL gs = none:=by have:=za HTO2; rw [hst,if_neg (by decide)] at this; exact this
     have HE:R = (tot0,3):=by rw [za HF2,HN]
     subst HE
     clear HN HF2 HTO2 hi hz0 hz1 hz2 HK1 HO3
     have HTH:=hide (za HTA).t
     have HSC:Hid (Bx ((w3.alloc (Obj.cells #[.int .i64 ck,.int .i64 c1,.int .i64 ct,.int .i64 cl,.int .i64 cq,.int .i64 ci,.float .f64 cp,.string cgg] 39)).setCells w.heap.size 0 [.int .i64 0,.int .i64 0,.int .i64 0,.int .i64 0,.int .i64 0,.int .i64 0,.int .i64 0,.int .i64 0]) w.heap.size [.int .i64 0,.int .i64 0,.int .i64 0,.int .i64 0,.int .i64 0,.int .i64 0,.int .i64 0,.int .i64 0]):=zad (za HTA) rfl
     have HEM:Hid (Below w.heap.size w ((w3.alloc (Obj.cells #[.int .i64 ck,.int .i64 c1,.int .i64 ct,.int .i64 cl,.int .i64 cq,.int .i64 ci,.float .f64 cp,.string cgg] 39)).setCells w.heap.size 0 [.int .i64 0,.int .i64 0,.int .i64 0,.int .i64 0,.int .i64 0,.int .i64 0,.int .i64 0,.int .i64 0])):=zao (za HBA) (Nat.le_refl _) _
     clear HTA HBA HT3 HB3
     repeat (first | (refine wpList_store_mid rfl 25 (.tmp 2) (.tmp 45) rfl w.heap.size 0 #[.int .i64 0,.int .i64 0,.int .i64 0,.int .i64 0,.int .i64 0,.int .i64 0,.int .i64 0,.int .i64 0] rfl rfl (za HTH) (by kernel_rfl) (by simp [Value.oneCell']) ?_; change wpList _ _ _ _ _ ((w3.alloc (Obj.cells #[.int .i64 ck,.int .i64 c1,.int .i64 ct,.int .i64 cl,.int .i64 cq,.int .i64 ci,.float .f64 cp,.string cgg] 39)).setCells w.heap.size 0 [.int .i64 0,.int .i64 0,.int .i64 0,.int .i64 0,.int .i64 0,.int .i64 0,.int .i64 0,.int .i64 0]); generalize ((w3.alloc (Obj.cells #[.int .i64 ck,.int .i64 c1,.int .i64 ct,.int .i64 cl,.int .i64 cq,.int .i64 ci,.float .f64 cp,.string cgg] 39)).setCells w.heap.size 0 [.int .i64 0,.int .i64 0,.int .i64 0,.int .i64 0,.int .i64 0,.int .i64 0,.int .i64 0,.int .i64 0]) = WF at HSC HEM ⊢) | go_step)
     obtain ⟨d0,d1,d2,d3,d4,d5,d6,d7⟩:=t8c (za HSC)
     refine bodyPost_ret (by simp [results,Tryz.results5,go_sem,d0,d1,d2,d3,d4,d5,d6,d7]; try rfl) rfl ?_
     exact ⟨rfl,za HEM⟩
    ·have HN:Hid (tolL gs = (tolL (gs.drop (k + 1))).map (fun r=>(cs ++ [⟨ck,c1,ct,cl,cq,ci,cp,cgg⟩]) ++ r)):=by
      have:=za HTO2
      rw [hst,if_pos rfl,Option.map_map] at this
      refine this.trans ?_
      cases tolL (gs.drop (k + 1)) <;> simp
     have hs4:(w3.alloc (Obj.cells #[.int .i64 ck,.int .i64 c1,.int .i64 ct,.int .i64 cl,.int .i64 cq,.int .i64 ci,.float .f64 cp,.string cgg] 39)).heap.size = w3.heap.size + 1:=ze _ _
     have HXA:=hide (zaK w3 [.int .i64 ck,.int .i64 c1,.int .i64 ct,.int .i64 cl,.int .i64 cq,.int .i64 ci,.float .f64 cp,.string cgg] 39)
     have HO4:=hide ((za HO3).alloc (Obj.cells #[.int .i64 ck,.int .i64 c1,.int .i64 ct,.int .i64 cl,.int .i64 cq,.int .i64 ci,.float .f64 cp,.string cgg] 39))
     have b0:=zd (za HXA) 0 rfl
     have b1:=zd (za HXA) 1 rfl
     have b2:=zd (za HXA) 2 rfl
     have b3:=zd (za HXA) 3 rfl
     have b4:=zd (za HXA) 4 rfl
     have b5:=zd (za HXA) 5 rfl
     have b6:=zd (za HXA) 6 rfl
     have b7:=zd (za HXA) 7 rfl
     have hcl':cs.length ≤ 4096:=by have:=za HCK; omega
     go_wp2_with (at_builtin; go_must (refine wpList_append_own _ rfl _ _ 35 rfl (w.heap.size + 1) 39 i0 _ 8 72 Tryz.underlying35 hi hz0 hz1 hz2 rfl (by decide) _ cs.length (cs.flatMap Cm.vs) rfl ((za HO4).alloc _) ⟨w3.heap.size + 1,0,none⟩ 1 1 (Cm.vs ⟨ck,c1,ct,cl,cq,ci,cp,cgg⟩) rfl rfl (cellsJ hs4 _ _) (by simp [Value.oneCell',Cm.vs]) (by unfold maxLen; omega) (by omega) (by rw [ze,hs4]; omega) ?_); intro v4 w4 hown4 hg4 _)
     go_roundw
     case rel =>
      have hnb:∀ j,(Value.slice ao cs.length co).ownBlock = some j→w.heap.size + 1 ≤ j:=fun j hj=>((za HO4).lt j hj).1
      refine ⟨cs ++ [⟨ck,c1,ct,cl,cq,ci,cp,cgg⟩],k + 1,by omega,by go_num,by rw [List.length_append,za HCK]; rfl,HN,by simpa using hown4,?_,?_⟩
      ·refine bx_blk (zP (za HTA) ((Below.refl _ _).alloc (Nat.le_refl _) (Obj.cells (Cm.vs ⟨ck,c1,ct,cl,cq,ci,cp,cgg⟩).toArray 39)) (by omega)) (hg4.block _ (by rw [ze,hs4]; omega) (fun e=>by have:=hnb _ e.symm; omega))
      ·exact ((za HBA).alloc (by rw [hs4]; omega) _).grown hg4 (by rw [ze,hs4]; omega) (fun j hj=>by have:=hnb j hj; omega)
     case measure=>simp [intOf]; omega
  ·have HN:Hid (tolL gs = some cs):=by
    have:=za hto
    rw [List.drop_of_length_le (by omega)] at this
    refine this.trans ?_
    simp [tolL]
   have hlt':¬ ((k:Int) < gs.length):=by omega
   clear hck hto
   have HLT:Hid (cs.length = gs.length):=hide (tol_len (za HN))
   have HTS:Hid (∀ c ∈ cs,c.g.size ≤ maxLen):=hide (tol_size (za HN) (za HTG))
   have HF3:Hid (R = if gsB (rsF cs).g gs = true then ((rsF cs).t,0) else (tot0,8)):=hide (by rw [za HF2,za HN])
   have HRC:Hid (RdR Cm.vs 8 wr (.slice ao cs.length co) cs):=zcp (zaX Cm.len (by have:=za HLT; omega) (za HOW))
   go_wp2_with fail
   refine za HK1 _ _ ?_
   clear HK1 HOW HF2 HN
   have HIM:=hide (fun W hW=>l04Run_any (.slice ao cs.length co) cs W hW (za HTS) (by have:=za HLT; omega))
   obtain ⟨hf1,hf2⟩:=rs_few cs (by have:=za HLT; omega)
   generalize rsF cs = F at HF3 HIM hf1 hf2
   have HF1:Hid (F.g.length = gs.length):=hide (hf1.trans (za HLT))
   have HFM:=hide hf2
   clear hf1 hf2 HTS hk hlt hlt' hi hz0 hz1 hz2
   refine wp_seq_k fun K hK=>?_
   have HK1:=hide hK
   clear hK
   go_wp2_with fail
   refine (za HIM wr (za HRC)).mono ?_
   rintro e w3 ⟨gv,vq,rfl,hgr,hor,hb3⟩
   obtain ⟨gs2,hg1,hg2,hg3⟩:=hgr.ex
   have hrg:=grs_rd hg1 hg2 hg3 (by rw [za HF1]; omega) (za HFM)
   obtain ⟨ag2,cg2,rfl,-⟩:=id hrg
   obtain ⟨aq,cq,rfl⟩:=zbC hor
   have hal:Below w3.heap.size w3 (w3.alloc (Obj.cells #[.slice ag2 F.g.length cg2,.int .i64 F.n,.slice aq F.l.length cq,.int .i64 F.t.gr,.int .i64 F.t.ac,.int .i64 F.t.rf,.int .i64 F.t.tr,.int .i64 F.t.vo,.int .i64 F.t.no,.int .i64 F.t.li,.int .i64 F.t.le] 48)):=(Below.refl _ _).alloc (Nat.le_refl _) _
   have hb34:=hb3.trans (hal.mono hb3.size)
   have HB4:=hide ((za HB).trans (hb34.mono (za HB).size))
   have HT4:=hide (zP (za HT) hb34 hws)
   have HX4:Hid (Bx (w3.alloc (Obj.cells #[.slice ag2 F.g.length cg2,.int .i64 F.n,.slice aq F.l.length cq,.int .i64 F.t.gr,.int .i64 F.t.ac,.int .i64 F.t.rf,.int .i64 F.t.tr,.int .i64 F.t.vo,.int .i64 F.t.no,.int .i64 F.t.li,.int .i64 F.t.le] 48)) w3.heap.size [.slice ag2 F.g.length cg2,.int .i64 F.n,.slice aq F.l.length cq,.int .i64 F.t.gr,.int .i64 F.t.ac,.int .i64 F.t.rf,.int .i64 F.t.tr,.int .i64 F.t.vo,.int .i64 F.t.no,.int .i64 F.t.li,.int .i64 F.t.le]):=zaK w3 [.slice ag2 F.g.length cg2,.int .i64 F.n,.slice aq F.l.length cq,.int .i64 F.t.gr,.int .i64 F.t.ac,.int .i64 F.t.rf,.int .i64 F.t.tr,.int .i64 F.t.vo,.int .i64 F.t.no,.int .i64 F.t.li,.int .i64 F.t.le] 48
   have HG4:=hide (zav hrg hal (Nat.le_refl _))
   clear hgr hor hb3 hal hb34 hg1 hg2 hg3 hrg HRC HIM HFM
   go_wp2_with fail
   refine za HK1 _ _ ?_
   clear HK1
   generalize (w3.alloc (Obj.cells #[.slice ag2 F.g.length cg2,.int .i64 F.n,.slice aq F.l.length cq,.int .i64 F.t.gr,.int .i64 F.t.ac,.int .i64 F.t.rf,.int .i64 F.t.tr,.int .i64 F.t.vo,.int .i64 F.t.no,.int .i64 F.t.li,.int .i64 F.t.le] 48)) = W4 at HB4 HT4 HX4 HG4 ⊢
   generalize w3.heap.size = bL at HX4 ⊢
   have hwL:=bx_size (za HT4)
   have hbL:=bx_size (za HX4)
   have HCA:Hid (∀ (k:Nat) (es:List Ev),gs[k]? = some es→∃ b off ga gc,ag = some ⟨b,off,none⟩∧b < W4.heap.size∧W4.cell? ⟨b,off + k,none⟩ = some (.slice ga es.length gc)∧RdR Ev.vs 14 W4 (.slice ga es.length gc) es):=hide (fun k es hk=>by
    obtain ⟨b,off,ga,gc,h1,h2,h3,h4⟩:=za HC k es hk
    exact ⟨b,off,ga,gc,h1,Nat.lt_of_lt_of_le h2 (za HB4).size,((za HB4).cell (p:=⟨b,off + k,none⟩) h2).trans h3,zl h4 (za HB4) (Nat.le_refl _)⟩)
   have HCB:Hid (∀ (k:Nat) (es:List Ev),F.g[k]? = some es→∃ b off ga gc,ag2 = some ⟨b,off,none⟩∧b < W4.heap.size∧W4.cell? ⟨b,off + k,none⟩ = some (.slice ga es.length gc)∧RdR Ev.vs 14 W4 (.slice ga es.length gc) es):=hide (fun k es hk=>by
    obtain ⟨a1,c1,e1,-,hca⟩:=za HG4
    simp only [Value.slice.injEq,true_and] at e1
    obtain ⟨rfl,rfl⟩:=e1
    obtain ⟨b,off,h1,h2,h3⟩:=hca (by intro h; rw [h] at hk; simp at hk)
    obtain ⟨g,h4,h5⟩:=h3 k es hk
    obtain ⟨ga,gc,rfl,_⟩:=id h5
    exact ⟨b,off,ga,gc,h1,h2,h4,h5⟩)
   clear HC HG4 HB HT hws HTG
   refine wp_seq_k fun K hK=>?_
   have HK1:=hide hK
   clear hK
   go_wp2_with fail
   go_loopw [9] (fun iv wr=>∃ (k:Nat),k ≤ gs.length∧iv = .int .i64 k∧Hid (gsB F.g gs = gsB (F.g.drop k) (gs.drop k))∧Below W4.heap.size W4 wr) (fun iv _=>gs.length - (intOf iv).toNat)
   case atStart=>exact ⟨0,Nat.zero_le _,rfl,by simp [Hid],Below.refl _ _⟩
   case round =>
    rename_i wr0 _ _
    obtain ⟨k,hk,rfl,HGB,hbel⟩:=hrel
    have HB5:=hide hbel
    clear hbel
    by_cases hlt:k < gs.length
    ·obtain ⟨es,hes⟩:∃ es,gs[k]? = some es:=⟨_,List.getElem?_eq_getElem hlt⟩
     obtain ⟨fs,hfs⟩:∃ fs,F.g[k]? = some fs:=⟨_,List.getElem?_eq_getElem (by rw [za HF1]; exact hlt)⟩
     obtain ⟨b,off,ga,gc,rfl,hb,hcl,hre⟩:=za HCA k es hes
     obtain ⟨b2,off2,ga2,gc2,rfl,hb2,hcl2,hre2⟩:=za HCB k fs hfs
     have HST:Hid (∀ V,Below W4.heap.size W4 V→V.cell? ⟨b,off + k,none⟩ = some (.slice ga es.length gc)∧V.cell? ⟨bL,0,none⟩ = some (.slice (some ⟨b2,off2,none⟩) F.g.length cg2)∧V.cell? ⟨b2,off2 + k,none⟩ = some (.slice ga2 fs.length gc2)):=hide (fun V hV=>⟨(hV.cell (p:=⟨b,off + k,none⟩) hb).trans hcl,zd (zP (za HX4) hV hbL) 0 rfl,(hV.cell (p:=⟨b2,off2 + k,none⟩) hb2).trans hcl2⟩)
     have HEA:Hid (∀ V,Below W4.heap.size W4 V→∀ (j:Nat) (e:Ev),es[j]? = some e→∃ eb eo,ga = some ⟨eb,eo,none⟩∧V.rangeAt eb (eo + j * 14) e.vs):=hide (fun V hV j e hj=>by
      obtain ⟨a1,c1,e1,-,h1⟩:=hre
      simp only [Value.slice.injEq,true_and] at e1
      obtain ⟨x,y,h2,h2',h3⟩:=h1 (by intro h; rw [h] at hj; simp at hj)
      exact ⟨x,y,e1.1.trans h2,zb (h3 j e hj) hV h2'⟩)
     have HEB:Hid (∀ V,Below W4.heap.size W4 V→∀ (j:Nat) (e:Ev),fs[j]? = some e→∃ eb eo,ga2 = some ⟨eb,eo,none⟩∧V.rangeAt eb (eo + j * 14) e.vs):=hide (fun V hV j e hj=>by
      obtain ⟨a1,c1,e1,-,h1⟩:=hre2
      simp only [Value.slice.injEq,true_and] at e1
      obtain ⟨x,y,h2,h2',h3⟩:=h1 (by intro h; rw [h] at hj; simp at hj)
      exact ⟨x,y,e1.1.trans h2,zb (h3 j e hj) hV h2'⟩)
     have HGC:Hid (gsB F.g gs = (esB fs es && gsB (F.g.drop (k + 1)) (gs.drop (k + 1)))):=hide (by rw [za HGB,dropX hfs,dropX hes,gsB_cons])
     have hlt':(k:Int) < gs.length:=by omega
     have hlt2:(k:Int) < F.g.length:=by rw [za HF1]; omega
     have hel:es.length ≤ 1073741824:=by obtain ⟨a1,c1,e1,h,-⟩:=hre; exact h
     obtain ⟨x0,x1,x2⟩:=za HST _ (za HB5)
     clear hcl hcl2 hes hfs hre hre2 HGB hb hb2
     by_cases hL:es.length = fs.length
     ·have hL1:((es.length:Int) == (fs.length:Int)) = true:=by rw [hL]; simp
      have hL2:((es.length:Int) != (fs.length:Int)) = false:=by rw [hL]; simp
      go_wp2_with fail
      go_quiet (fail)
      have HB6:Hid (Below W4.heap.size W4 (wr.drewN nq)):=⟨(za HB5).os,(za HB5).tape,(za HB5).output,(za HB5).size,(za HB5).block⟩
      generalize wr.drewN nq = V6 at HB6 ⊢
      clear HB5 x0 x1 x2 hL1 hL2
      go_wp2_with fail
      go_loopw [10] (fun jv wr=>∃ (j:Nat),j ≤ es.length∧jv = .int .i64 j∧Hid (esB fs es = esB (fs.drop j) (es.drop j))∧Below W4.heap.size W4 wr) (fun jv _=>es.length - (intOf jv).toNat)
      case atStart=>exact ⟨0,Nat.zero_le _,rfl,by simp [Hid],za HB6⟩
      case round =>
       obtain ⟨j,hj,rfl,HEJ,hbel⟩:=hrel
       have HB7:=hide hbel
       clear hbel
       obtain ⟨x0,x1,x2⟩:=za HST _ (za HB7)
       by_cases hjl:j < es.length
       ·obtain ⟨e1,he1⟩:∃ e,es[j]? = some e:=⟨_,List.getElem?_eq_getElem hjl⟩
        obtain ⟨e2,he2⟩:∃ e,fs[j]? = some e:=⟨_,List.getElem?_eq_getElem (by omega)⟩
        obtain ⟨eb,eo,rfl,hr1⟩:=za HEA _ (za HB7) j e1 he1
        obtain ⟨fb,fo,rfl,hr2⟩:=za HEB _ (za HB7) j e2 he2
        have HEC:Hid (esB fs es = (zbr e1 e2 && esB (fs.drop (j + 1)) (es.drop (j + 1)))):=hide (by rw [za HEJ,dropX he1,dropX he2,esB_cons,sameE_comm])
        have hjl':(j:Int) < es.length:=by omega
        have hjl2:(j:Int) < fs.length:=by omega
        have HSK:Hid (∀ V,Below wr.heap.size wr V→V.cell? ⟨b,off + k,none⟩ = some (.slice (some ⟨eb,eo,none⟩) es.length gc)∧V.cell? ⟨bL,0,none⟩ = some (.slice (some ⟨b2,off2,none⟩) F.g.length cg2)∧V.cell? ⟨b2,off2 + k,none⟩ = some (.slice (some ⟨fb,fo,none⟩) fs.length gc2)∧V.cell? ⟨eb,eo + j * 14,none⟩ = some (.int .i64 e1.kind)∧V.cell? ⟨eb,eo + j * 14 + 1,none⟩ = some (.int .i64 e1.cmd.k)∧V.cell? ⟨eb,eo + j * 14 + 2,none⟩ = some (.int .i64 e1.cmd.s)∧V.cell? ⟨eb,eo + j * 14 + 3,none⟩ = some (.int .i64 e1.cmd.t)∧V.cell? ⟨eb,eo + j * 14 + 4,none⟩ = some (.int .i64 e1.cmd.l)∧V.cell? ⟨eb,eo + j * 14 + 5,none⟩ = some (.int .i64 e1.cmd.q)∧V.cell? ⟨eb,eo + j * 14 + 6,none⟩ = some (.int .i64 e1.cmd.i)∧V.cell? ⟨eb,eo + j * 14 + 7,none⟩ = some (.float .f64 e1.cmd.p)∧V.cell? ⟨eb,eo + j * 14 + 8,none⟩ = some (.string e1.cmd.g)∧V.cell? ⟨eb,eo + j * 14 + 9,none⟩ = some (.int .i64 e1.id)∧V.cell? ⟨eb,eo + j * 14 + 10,none⟩ = some (.int .i64 e1.other)∧V.cell? ⟨eb,eo + j * 14 + 11,none⟩ = some (.int .i64 e1.qty)∧V.cell? ⟨eb,eo + j * 14 + 12,none⟩ = some (.int .i64 e1.price)∧V.cell? ⟨eb,eo + j * 14 + 13,none⟩ = some (.int .i64 e1.reason)∧V.cell? ⟨fb,fo + j * 14,none⟩ = some (.int .i64 e2.kind)∧V.cell? ⟨fb,fo + j * 14 + 1,none⟩ = some (.int .i64 e2.cmd.k)∧V.cell? ⟨fb,fo + j * 14 + 2,none⟩ = some (.int .i64 e2.cmd.s)∧V.cell? ⟨fb,fo + j * 14 + 3,none⟩ = some (.int .i64 e2.cmd.t)∧V.cell? ⟨fb,fo + j * 14 + 4,none⟩ = some (.int .i64 e2.cmd.l)∧V.cell? ⟨fb,fo + j * 14 + 5,none⟩ = some (.int .i64 e2.cmd.q)∧V.cell? ⟨fb,fo + j * 14 + 6,none⟩ = some (.int .i64 e2.cmd.i)∧V.cell? ⟨fb,fo + j * 14 + 7,none⟩ = some (.float .f64 e2.cmd.p)∧V.cell? ⟨fb,fo + j * 14 + 8,none⟩ = some (.string e2.cmd.g)∧V.cell? ⟨fb,fo + j * 14 + 9,none⟩ = some (.int .i64 e2.id)∧V.cell? ⟨fb,fo + j * 14 + 10,none⟩ = some (.int .i64 e2.other)∧V.cell? ⟨fb,fo + j * 14 + 11,none⟩ = some (.int .i64 e2.qty)∧V.cell? ⟨fb,fo + j * 14 + 12,none⟩ = some (.int .i64 e2.price)∧V.cell? ⟨fb,fo + j * 14 + 13,none⟩ = some (.int .i64 e2.reason)):=hide (fun V hV=>by
         have hV4:=(za HB7).trans (hV.mono (za HB7).size)
         obtain ⟨a0,a1,a2⟩:=za HST V hV4
         obtain ⟨_,_,f1,r1⟩:=za HEA V hV4 j e1 he1
         cases f1
         obtain ⟨_,_,f2,r2⟩:=za HEB V hV4 j e2 he2
         cases f2
         obtain ⟨p0,p1,p2,p3,p4,p5,p6,p7,p8,p9,p10,p11,p12,p13⟩:=zal r1
         obtain ⟨q0,q1,q2,q3,q4,q5,q6,q7,q8,q9,q10,q11,q12,q13⟩:=zal r2
         exact ⟨a0,a1,a2,p0,p1,p2,p3,p4,p5,p6,p7,p8,p9,p10,p11,p12,p13,q0,q1,q2,q3,q4,q5,q6,q7,q8,q9,q10,q11,q12,q13⟩)
        have HSM:=hide (fun V=>l04Same_any e1 e2 V)
        unfold evV at HSM
        have HXD:Hid (Below wr.heap.size wr wr.drew):=(Below.refl _ _).drew
        have HJS:Hid (∀ V,Below wr.heap.size wr V→Bx V w.heap.size [.int .i64 0,.int .i64 0,.int .i64 0,.int .i64 0,.int .i64 0,.int .i64 0,.int .i64 0,.int .i64 0]∧Below w.heap.size w V∧Below W4.heap.size W4 V):=hide (fun V hV=>by
         have hV4:=(za HB7).trans (hV.mono (za HB7).size)
         exact ⟨zP (za HT4) hV4 hwL,(za HB4).trans (hV4.mono (za HB4).size),hV4⟩)
        generalize zbr e1 e2 = sm at HSM HEC
        clear hr1 hr2 he1 he2 HEJ
        go_wp2_with fail
        go_region_held3 (fun w'=>w'.cell? ⟨b,off + k,none⟩ = some (.slice (some ⟨eb,eo,none⟩) es.length gc)∧w'.cell? ⟨bL,0,none⟩ = some (.slice (some ⟨b2,off2,none⟩) F.g.length cg2)∧w'.cell? ⟨b2,off2 + k,none⟩ = some (.slice (some ⟨fb,fo,none⟩) fs.length gc2)∧w'.cell? ⟨eb,eo + j * 14,none⟩ = some (.int .i64 e1.kind)∧w'.cell? ⟨eb,eo + j * 14 + 1,none⟩ = some (.int .i64 e1.cmd.k)∧w'.cell? ⟨eb,eo + j * 14 + 2,none⟩ = some (.int .i64 e1.cmd.s)∧w'.cell? ⟨eb,eo + j * 14 + 3,none⟩ = some (.int .i64 e1.cmd.t)∧w'.cell? ⟨eb,eo + j * 14 + 4,none⟩ = some (.int .i64 e1.cmd.l)∧w'.cell? ⟨eb,eo + j * 14 + 5,none⟩ = some (.int .i64 e1.cmd.q)∧w'.cell? ⟨eb,eo + j * 14 + 6,none⟩ = some (.int .i64 e1.cmd.i)∧w'.cell? ⟨eb,eo + j * 14 + 7,none⟩ = some (.float .f64 e1.cmd.p)∧w'.cell? ⟨eb,eo + j * 14 + 8,none⟩ = some (.string e1.cmd.g)∧w'.cell? ⟨eb,eo + j * 14 + 9,none⟩ = some (.int .i64 e1.id)∧w'.cell? ⟨eb,eo + j * 14 + 10,none⟩ = some (.int .i64 e1.other)∧w'.cell? ⟨eb,eo + j * 14 + 11,none⟩ = some (.int .i64 e1.qty)∧w'.cell? ⟨eb,eo + j * 14 + 12,none⟩ = some (.int .i64 e1.price)∧w'.cell? ⟨eb,eo + j * 14 + 13,none⟩ = some (.int .i64 e1.reason)∧w'.cell? ⟨fb,fo + j * 14,none⟩ = some (.int .i64 e2.kind)∧w'.cell? ⟨fb,fo + j * 14 + 1,none⟩ = some (.int .i64 e2.cmd.k)∧w'.cell? ⟨fb,fo + j * 14 + 2,none⟩ = some (.int .i64 e2.cmd.s)∧w'.cell? ⟨fb,fo + j * 14 + 3,none⟩ = some (.int .i64 e2.cmd.t)∧w'.cell? ⟨fb,fo + j * 14 + 4,none⟩ = some (.int .i64 e2.cmd.l)∧w'.cell? ⟨fb,fo + j * 14 + 5,none⟩ = some (.int .i64 e2.cmd.q)∧w'.cell? ⟨fb,fo + j * 14 + 6,none⟩ = some (.int .i64 e2.cmd.i)∧w'.cell? ⟨fb,fo + j * 14 + 7,none⟩ = some (.float .f64 e2.cmd.p)∧w'.cell? ⟨fb,fo + j * 14 + 8,none⟩ = some (.string e2.cmd.g)∧w'.cell? ⟨fb,fo + j * 14 + 9,none⟩ = some (.int .i64 e2.id)∧w'.cell? ⟨fb,fo + j * 14 + 10,none⟩ = some (.int .i64 e2.other)∧w'.cell? ⟨fb,fo + j * 14 + 11,none⟩ = some (.int .i64 e2.qty)∧w'.cell? ⟨fb,fo + j * 14 + 12,none⟩ = some (.int .i64 e2.price)∧w'.cell? ⟨fb,fo + j * 14 + 13,none⟩ = some (.int .i64 e2.reason)) (first | exact za HSK _ hq | exact za HSK _ (za HXD) | go_keep) (first | (go_at_call 13; refine (za HSM _).mono ?_; rintro e w8 ⟨rfl,hb8⟩; have hq:=(za HXD).trans hb8))
        obtain ⟨hj1,hj2,hj3⟩:=za HJS _ hq
        have HT8:=hide hj1
        have HB8:=hide hj2
        have HW8:=hide hj3
        clear hq hb8 hj1 hj2 hj3 HJS HSK HSM HXD x0 x1 x2 HB7
        cases sm
        ·have HE:R = (tot0,8):=by rw [za HF3,za HGC,za HEC]; rfl
         subst HE
         clear HF3 HGC HEC HST HEA HEB HCA HCB HK1 HT4 HB4 HX4 HW8
         obtain ⟨t0,t1,t2,t3,t4,t5,t6,t7⟩:=t8c (za HT8)
         have z0:=zg (za HT8) 0 (by show 0 < 8; omega)
         have z1:=zg (za HT8) 1 (by show 1 < 8; omega)
         have z2:=zg (za HT8) 2 (by show 2 < 8; omega)
         have z3:=zg (za HT8) 3 (by show 3 < 8; omega)
         have z4:=zg (za HT8) 4 (by show 4 < 8; omega)
         have z5:=zg (za HT8) 5 (by show 5 < 8; omega)
         have z6:=zg (za HT8) 6 (by show 6 < 8; omega)
         have z7:=zg (za HT8) 7 (by show 7 < 8; omega)
         have HSC:Hid (Bx (w8.setCells w.heap.size 0 [.int .i64 0,.int .i64 0,.int .i64 0,.int .i64 0,.int .i64 0,.int .i64 0,.int .i64 0,.int .i64 0]) w.heap.size [.int .i64 0,.int .i64 0,.int .i64 0,.int .i64 0,.int .i64 0,.int .i64 0,.int .i64 0,.int .i64 0]):=zad (za HT8) rfl
         have HEM:Hid (Below w.heap.size w (w8.setCells w.heap.size 0 [.int .i64 0,.int .i64 0,.int .i64 0,.int .i64 0,.int .i64 0,.int .i64 0,.int .i64 0,.int .i64 0])):=zao (za HB8) (Nat.le_refl _) _
         go_wp2_with fail
         change bodyPost _ _ _ _ _ (w8.setCells w.heap.size 0 [.int .i64 0,.int .i64 0,.int .i64 0,.int .i64 0,.int .i64 0,.int .i64 0,.int .i64 0,.int .i64 0])
         generalize w8.setCells w.heap.size 0 [.int .i64 0,.int .i64 0,.int .i64 0,.int .i64 0,.int .i64 0,.int .i64 0,.int .i64 0,.int .i64 0] = WF at HSC HEM ⊢
         obtain ⟨d0,d1,d2,d3,d4,d5,d6,d7⟩:=t8c (za HSC)
         refine bodyPost_ret (by simp [results,Tryz.results5,go_sem,d0,d1,d2,d3,d4,d5,d6,d7]; try rfl) rfl ?_
         exact ⟨rfl,za HEM⟩
        ·have HE2:Hid (esB fs es = esB (fs.drop (j + 1)) (es.drop (j + 1))):=hide (by rw [za HEC]; rfl)
         go_wp2_with fail
         go_roundw
         case rel=>exact ⟨j + 1,by omega,by go_num,HE2,za HW8⟩
         case measure=>simp [intOf]; omega
       ·have hjl':¬ (j:Int) < es.length:=by omega
        have HE2:Hid (gsB F.g gs = gsB (F.g.drop (k + 1)) (gs.drop (k + 1))):=hide (by
         have h:=za HEJ
         rw [List.drop_of_length_le (by omega),List.drop_of_length_le (by omega)] at h
         rw [za HGC,h]; rfl)
        go_wp2_with fail
        go_roundw
        case rel=>exact ⟨k + 1,by omega,by go_num,HE2,za HB7⟩
        case measure=>simp [intOf]; omega
     ·have hL1:((es.length:Int) == (fs.length:Int)) = false:=by simp; omega
      have hL2:((es.length:Int) != (fs.length:Int)) = true:=by simp; omega
      have HE:R = (tot0,8):=by rw [za HF3,za HGC,esB_len (fun h=>hL h.symm)]; rfl
      subst HE
      go_wp2_with fail
      go_quiet (fail)
      have HB6:Hid (Below W4.heap.size W4 (wr.drewN nq)):=⟨(za HB5).os,(za HB5).tape,(za HB5).output,(za HB5).size,(za HB5).block⟩
      generalize wr.drewN nq = V6 at HB6 ⊢
      have HT8:=hide (zP (za HT4) (za HB6) hwL)
      have HB8:=hide ((za HB4).trans ((za HB6).mono (za HB4).size))
      clear HB5 x0 x1 x2 hL1 hL2 hL HF3 HGC HST HEA HEB HCA HCB HK1 HT4 HB4 HX4 HB6
      obtain ⟨t0,t1,t2,t3,t4,t5,t6,t7⟩:=t8c (za HT8)
      have z0:=zg (za HT8) 0 (by show 0 < 8; omega)
      have z1:=zg (za HT8) 1 (by show 1 < 8; omega)
      have z2:=zg (za HT8) 2 (by show 2 < 8; omega)
      have z3:=zg (za HT8) 3 (by show 3 < 8; omega)
      have z4:=zg (za HT8) 4 (by show 4 < 8; omega)
      have z5:=zg (za HT8) 5 (by show 5 < 8; omega)
      have z6:=zg (za HT8) 6 (by show 6 < 8; omega)
      have z7:=zg (za HT8) 7 (by show 7 < 8; omega)
      have HSC:Hid (Bx (V6.setCells w.heap.size 0 [.int .i64 0,.int .i64 0,.int .i64 0,.int .i64 0,.int .i64 0,.int .i64 0,.int .i64 0,.int .i64 0]) w.heap.size [.int .i64 0,.int .i64 0,.int .i64 0,.int .i64 0,.int .i64 0,.int .i64 0,.int .i64 0,.int .i64 0]):=zad (za HT8) rfl
      have HEM:Hid (Below w.heap.size w (V6.setCells w.heap.size 0 [.int .i64 0,.int .i64 0,.int .i64 0,.int .i64 0,.int .i64 0,.int .i64 0,.int .i64 0,.int .i64 0])):=zao (za HB8) (Nat.le_refl _) _
      go_wp2_with fail
      change bodyPost _ _ _ _ _ (V6.setCells w.heap.size 0 [.int .i64 0,.int .i64 0,.int .i64 0,.int .i64 0,.int .i64 0,.int .i64 0,.int .i64 0,.int .i64 0])
      generalize V6.setCells w.heap.size 0 [.int .i64 0,.int .i64 0,.int .i64 0,.int .i64 0,.int .i64 0,.int .i64 0,.int .i64 0,.int .i64 0] = WF at HSC HEM ⊢
      obtain ⟨d0,d1,d2,d3,d4,d5,d6,d7⟩:=t8c (za HSC)
      refine bodyPost_ret (by simp [results,Tryz.results5,go_sem,d0,d1,d2,d3,d4,d5,d6,d7]; try rfl) rfl ?_
      exact ⟨rfl,za HEM⟩
    ·have hlt':¬ ((k:Int) < gs.length):=by omega
     have HE:R = (F.t,0):=by
      have h:=za HGB
      rw [List.drop_of_length_le (by rw [za HF1]; omega),List.drop_of_length_le (by omega)] at h
      rw [za HF3,h]; rfl
     subst HE
     have HT8:=hide (zP (za HT4) (za HB5) hwL)
     have HB8:=hide ((za HB4).trans ((za HB5).mono (za HB4).size))
     have hX8:=zP (za HX4) (za HB5) hbL
     have x3:=zd hX8 3 rfl
     have x4:=zd hX8 4 rfl
     have x5:=zd hX8 5 rfl
     have x6:=zd hX8 6 rfl
     have x7:=zd hX8 7 rfl
     have x8:=zd hX8 8 rfl
     have x9:=zd hX8 9 rfl
     have x10:=zd hX8 10 rfl
     clear hX8 HF3 HGB HCA HCB HT4 HB4 HX4 HB5
     go_wp2_with fail
     refine za HK1 _ _ ?_
     clear HK1
     obtain ⟨t0,t1,t2,t3,t4,t5,t6,t7⟩:=t8c (za HT8)
     have z0:=zg (za HT8) 0 (by show 0 < 8; omega)
     have z1:=zg (za HT8) 1 (by show 1 < 8; omega)
     have z2:=zg (za HT8) 2 (by show 2 < 8; omega)
     have z3:=zg (za HT8) 3 (by show 3 < 8; omega)
     have z4:=zg (za HT8) 4 (by show 4 < 8; omega)
     have z5:=zg (za HT8) 5 (by show 5 < 8; omega)
     have z6:=zg (za HT8) 6 (by show 6 < 8; omega)
     have z7:=zg (za HT8) 7 (by show 7 < 8; omega)
     have HSC:Hid (Bx (wr.setCells w.heap.size 0 [.int .i64 F.t.gr,.int .i64 F.t.ac,.int .i64 F.t.rf,.int .i64 F.t.tr,.int .i64 F.t.vo,.int .i64 F.t.no,.int .i64 F.t.li,.int .i64 F.t.le]) w.heap.size [.int .i64 F.t.gr,.int .i64 F.t.ac,.int .i64 F.t.rf,.int .i64 F.t.tr,.int .i64 F.t.vo,.int .i64 F.t.no,.int .i64 F.t.li,.int .i64 F.t.le]):=zad (za HT8) rfl
     have HEM:Hid (Below w.heap.size w (wr.setCells w.heap.size 0 [.int .i64 F.t.gr,.int .i64 F.t.ac,.int .i64 F.t.rf,.int .i64 F.t.tr,.int .i64 F.t.vo,.int .i64 F.t.no,.int .i64 F.t.li,.int .i64 F.t.le])):=zao (za HB8) (Nat.le_refl _) _
     go_wp2_with fail
     change bodyPost _ _ _ _ _ (wr.setCells w.heap.size 0 [.int .i64 F.t.gr,.int .i64 F.t.ac,.int .i64 F.t.rf,.int .i64 F.t.tr,.int .i64 F.t.vo,.int .i64 F.t.no,.int .i64 F.t.li,.int .i64 F.t.le])
     generalize wr.setCells w.heap.size 0 [.int .i64 F.t.gr,.int .i64 F.t.ac,.int .i64 F.t.rf,.int .i64 F.t.tr,.int .i64 F.t.vo,.int .i64 F.t.no,.int .i64 F.t.li,.int .i64 F.t.le] = WF at HSC HEM ⊢
     obtain ⟨d0,d1,d2,d3,d4,d5,d6,d7⟩:=t8c (za HSC)
     refine bodyPost_ret (by simp [results,Tryz.results5,go_sem,d0,d1,d2,d3,d4,d5,d6,d7]; try rfl) rfl ?_
     exact ⟨rfl,za HEM⟩
end Go.Proofs.YtopjoogdpjaocaaGreat
