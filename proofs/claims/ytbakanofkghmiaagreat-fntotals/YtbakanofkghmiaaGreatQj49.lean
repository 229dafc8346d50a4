/-
  The totals of groups, by the program: proved by walking the function.
-/
import Derived.Test.YtbakanofkghmiaaGreatQj45
import Derived.Test.YtbakanofkghmiaaGreatQj48
set_option linter.unusedVariables false
set_option maxHeartbeats 6400000
set_option maxRecDepth 100000
namespace Go.Proofs.YtbakanofkghmiaaGreat
open Go.RowKit
theorem t8c {W:World} {b:Nat} {v0 v1 v2 v3 v4 v5 v6 v7:Value} (h:Bx W b [v0,v1,v2,v3,v4,v5,v6,v7]):W.cell? ⟨b,0,none⟩ = some v0∧W.cell? ⟨b,1,none⟩ = some v1∧W.cell? ⟨b,2,none⟩ = some v2∧W.cell? ⟨b,3,none⟩ = some v3∧W.cell? ⟨b,4,none⟩ = some v4∧W.cell? ⟨b,5,none⟩ = some v5∧W.cell? ⟨b,6,none⟩ = some v6∧W.cell? ⟨b,7,none⟩ = some v7 :=
 ⟨zq h 0 rfl,zq h 1 rfl,zq h 2 rfl,zq h 3 rfl,zq h 4 rfl,zq h 5 rfl,zq h 6 rfl,zq h 7 rfl⟩
theorem dY {B b:Nat} {w W:World} (h:Below B w W) (X:B ≤ b) (vs:List Value):Below B w (W.setCells b 0 vs):=zo b X vs 0 W h
def ttF (gs:List (List Ev)):Tot × Int :=
 if cntF gs.length ≠ 0 then (tot0,cntF gs.length) else match tolL gs with
 | none=>(tot0,3)
 | some ts=>if gsB (rsF ts).g gs = true then ((rsF ts).t,0) else (tot0,8)
def totV (t:Tot):Value:=.agg #[.int .i64 t.gr,.int .i64 t.ac,.int .i64 t.rf,.int .i64 t.tr,.int .i64 t.vo,.int .i64 t.no,.int .i64 t.li,.int .i64 t.le]
theorem rs_few (cs:List Cm) (h:cs.length ≤ 200):(rsF cs).g.length = cs.length∧∀ es ∈ (rsF cs).g,es.length ≤ 1000:=by
 have hg:(rsF cs).g = (runS cs).g:=by rw [rsF,if_pos h]
 have hl:(runS cs).g.length = cs.length:=(run_inv cs h).2.2.2
 rw [hg]
 refine ⟨hl,fun es he=>?_⟩
 obtain ⟨i,hi⟩:=List.getElem?_of_mem he
 have xL:=(yH.1 hi).1
 obtain ⟨c,Q,N⟩:=run_group cs cs.length (Nat.le_refl _) i (by omega)
 rw [xa (Nat.le_refl _),hi] at N
 obtain rfl:=Option.some.inj N
 have:=stE_lenT (next:=(runS (cs.take i)).n) (c:=c) (da cs h i (by omega)).1.good
 omega
set_option maxRecDepth 100000 in
set_option maxHeartbeats 1600000 in
theorem implTotalsOf_any (vg:Value) (gs:List (List Ev)) (w:World) (hr:RdG w vg gs) (kQ:∀ g ∈ gs,∀ e ∈ g,e.cmd.g.size ≤ maxLen) :
  Calls Tryz.prog 21 #[vg] w fun e w'=>e = .returned (.tuple #[totV (ttF gs).1,.int .i64 (ttF gs).2])∧Below w.heap.size w w':=by
 have HR:=hide hr
 have qn:=hide kQ
 obtain ⟨ag,cg,rfl,hln,-⟩:=hr
 have kF:=hide (bD w [.int .i64 0,.int .i64 0,.int .i64 0,.int .i64 0,.int .i64 0,.int .i64 0,.int .i64 0,.int .i64 0] 30)
 have uO:Hid (Below w.heap.size w (w.alloc (Obj.cells #[.int .i64 0,.int .i64 0,.int .i64 0,.int .i64 0,.int .i64 0,.int .i64 0,.int .i64 0,.int .i64 0] 30))):=(Below.refl _ _).alloc (Nat.le_refl _) _
 have kO:(w.alloc (Obj.cells #[.int .i64 0,.int .i64 0,.int .i64 0,.int .i64 0,.int .i64 0,.int .i64 0,.int .i64 0,.int .i64 0] 30)).heap.size = w.heap.size + 1:=zh _ _
 have HF:=hide (ttF.eq_1 gs)
 generalize ttF gs = hj at HF ⊢
 clear kQ
 go_enter Tryz.func21,Tryz.ntmps21
 go_wp2_with fail
 generalize (w.alloc (Obj.cells #[.int .i64 0,.int .i64 0,.int .i64 0,.int .i64 0,.int .i64 0,.int .i64 0,.int .i64 0,.int .i64 0] 30)) = W0 at kF uO kO ⊢
 have hs0':w.heap.size < W0.heap.size:=by omega
 clear kO
 refine (eB gs.length hln W0).mono ?_
 rintro e w1 ⟨rfl,rfl⟩
 by_cases hc:cntF gs.length = 0
 ·have hg200:=dN.1 hc
  rw [hc] at HF ⊢
  rw [if_neg (by decide)] at HF
  go_wp2_with fail
  refine (toldCmds_any _ gs w1 (du (U HR) (U uO) (Nat.le_refl _)) (by omega)).mono ?_
  rintro e w2 (⟨ts,v2,hto,rfl,xI,xX⟩ | ⟨hto,rfl,xX⟩)
  ·have uv:=hide (tol_len hto)
   obtain ⟨ao,co,rfl⟩:=cK xI
   have HRC:Hid (RdR Cm.vs 8 w2 (.slice ao ts.length co) ts):=cE (bK Cm.len (by have:=U uv; omega) xI)
   have HTS:Hid (∀ c ∈ ts,c.g.size ≤ maxLen):=tol_size hto (U qn)
   have xE:=hide ((U uO).trans (xX.mono (U uO).size))
   have uL:=hide (bT (U kF) xX hs0')
   have hcf:cntF ts.length = 0:=by rw [U uv]; exact hc
   have HIM:=hide (fun W hW=>ez (.slice ao ts.length co) ts W hW (U HTS))
   rw [hto] at HF
   simp only [hcf] at HF HIM
   obtain ⟨hf1,hf2⟩:=rs_few ts (by have:=U uv; omega)
   have ua:w.heap.size < w2.heap.size:=yK hs0' xX.size
   generalize rsF ts = ty at HF HIM hf1 hf2
   have qz:=hide hf1
   have HF2:=hide hf2
   clear xI xX hcf hto hc hf1 hf2 uO kF qn HTS
   go_wp2_with fail
   refine (U HIM w2 (U HRC)).mono ?_
   rintro e w3 ⟨gv,vq,rfl,uc,kZ,um⟩
   obtain ⟨gs2,vT,vM,uY,-⟩:=uc.ex
   have kb:=grs_rd vT vM uY (by rw [U qz,U uv]; omega) (U HF2)
   obtain ⟨ag2,cg2,rfl,-⟩:=id kb
   obtain ⟨aq,cq,rfl⟩:=cK kZ
   have aA:Below w3.heap.size w3 (w3.alloc (Obj.cells #[.slice ag2 ty.g.length cg2,.int .i64 ty.n,.slice aq ty.l.length cq,.int .i64 ty.t.gr,.int .i64 ty.t.ac,.int .i64 ty.t.rf,.int .i64 ty.t.tr,.int .i64 ty.t.vo,.int .i64 ty.t.no,.int .i64 ty.t.li,.int .i64 ty.t.le] 32)):=(Below.refl _ _).alloc (Nat.le_refl _) _
   have oK:=um.trans (aA.mono um.size)
   have ud:=hide ((U xE).trans (oK.mono (U xE).size))
   have ol:=hide (bT (U uL) oK ua)
   have xO:=hide (bD w3 [.slice ag2 ty.g.length cg2,.int .i64 ty.n,.slice aq ty.l.length cq,.int .i64 ty.t.gr,.int .i64 ty.t.ac,.int .i64 ty.t.rf,.int .i64 ty.t.tr,.int .i64 ty.t.vo,.int .i64 ty.t.no,.int .i64 ty.t.li,.int .i64 ty.t.le] 32)
   have HG4:=hide (du kb aA (Nat.le_refl _))
   have HR4:=hide (du (U HR) (U ud) (Nat.le_refl _))
   have hs34:w3.heap.size < (w3.alloc (Obj.cells #[.slice ag2 ty.g.length cg2,.int .i64 ty.n,.slice aq ty.l.length cq,.int .i64 ty.t.gr,.int .i64 ty.t.ac,.int .i64 ty.t.rf,.int .i64 ty.t.tr,.int .i64 ty.t.vo,.int .i64 ty.t.no,.int .i64 ty.t.li,.int .i64 ty.t.le] 32)).heap.size:=by simp
   have hs24:w.heap.size < w3.heap.size:=yK ua um.size
   clear uc kZ um aA oK vT vM uY kb HRC HIM xE uL qz HF2
   have x0:=zq (U xO) 0 rfl
   go_wp2_with fail
   generalize (w3.alloc (Obj.cells #[.slice ag2 ty.g.length cg2,.int .i64 ty.n,.slice aq ty.l.length cq,.int .i64 ty.t.gr,.int .i64 ty.t.ac,.int .i64 ty.t.rf,.int .i64 ty.t.tr,.int .i64 ty.t.vo,.int .i64 ty.t.no,.int .i64 ty.t.li,.int .i64 ty.t.le] 32)) = W4 at ud ol xO HG4 HR4 hs34 x0 ⊢
   refine (eqFuncG_any _ _ ty.g gs W4 (U HG4) (U HR4)).mono ?_
   rintro e w5 ⟨rfl,vG⟩
   have jA:=hide ((U ud).trans (vG.mono (U ud).size))
   have jk:=hide (bT (U ol) vG (Nat.lt_trans hs24 hs34))
   have kt:=hide (bT (U xO) vG hs34)
   clear vG ud ol xO HG4 HR4 x0
   cases hgb:gsB ty.g gs
   ·have HE:=(U HF).trans (if_neg (by rw [hgb]; decide))
    subst HE
    clear HF
    obtain ⟨t0,t1,t2,t3,t4,t5,t6,t7⟩:=t8c (U jk)
    have z0:=zV (U jk) 0 (by show 0 < 8; omega)
    have z1:=zV (U jk) 1 (by show 1 < 8; omega)
    have z2:=zV (U jk) 2 (by show 2 < 8; omega)
    have z3:=zV (U jk) 3 (by show 3 < 8; omega)
    have z4:=zV (U jk) 4 (by show 4 < 8; omega)
    have z5:=zV (U jk) 5 (by show 5 < 8; omega)
    have z6:=zV (U jk) 6 (by show 6 < 8; omega)
    have z7:=zV (U jk) 7 (by show 7 < 8; omega)
    have qL:=hide (U jA)
    go_wp2_with fail
    have uz:Hid (Bx (w5.setCells w.heap.size 0 [.int .i64 0,.int .i64 0,.int .i64 0,.int .i64 0,.int .i64 0,.int .i64 0,.int .i64 0,.int .i64 0]) w.heap.size [.int .i64 0,.int .i64 0,.int .i64 0,.int .i64 0,.int .i64 0,.int .i64 0,.int .i64 0,.int .i64 0]):=dT (U jk) rfl
    have HEM:Hid (Below w.heap.size w (w5.setCells w.heap.size 0 [.int .i64 0,.int .i64 0,.int .i64 0,.int .i64 0,.int .i64 0,.int .i64 0,.int .i64 0,.int .i64 0])):=dY (U qL) (Nat.le_refl _) _
    change bodyPost _ _ _ _ _ (w5.setCells w.heap.size 0 [.int .i64 0,.int .i64 0,.int .i64 0,.int .i64 0,.int .i64 0,.int .i64 0,.int .i64 0,.int .i64 0])
    generalize w5.setCells w.heap.size 0 [.int .i64 0,.int .i64 0,.int .i64 0,.int .i64 0,.int .i64 0,.int .i64 0,.int .i64 0,.int .i64 0] = WF at uz HEM ⊢
    obtain ⟨d0,d1,d2,d3,d4,d5,d6,d7⟩:=t8c (U uz)
    refine bodyPost_ret (by simp [results,Tryz.results21,go_sem,d0,d1,d2,d3,d4,d5,d6,d7]; try rfl) rfl ?_
    exact ⟨rfl,U HEM⟩
   ·have HE:=(U HF).trans (if_pos hgb)
    subst HE
    have x3:=zq (U kt) 3 rfl
    have x4:=zq (U kt) 4 rfl
    have x5:=zq (U kt) 5 rfl
    have x6:=zq (U kt) 6 rfl
    have x7:=zq (U kt) 7 rfl
    have x8:=zq (U kt) 8 rfl
    have x9:=zq (U kt) 9 rfl
    have x10:=zq (U kt) 10 rfl
    clear HF
    obtain ⟨t0,t1,t2,t3,t4,t5,t6,t7⟩:=t8c (U jk)
    have z0:=zV (U jk) 0 (by show 0 < 8; omega)
    have z1:=zV (U jk) 1 (by show 1 < 8; omega)
    have z2:=zV (U jk) 2 (by show 2 < 8; omega)
    have z3:=zV (U jk) 3 (by show 3 < 8; omega)
    have z4:=zV (U jk) 4 (by show 4 < 8; omega)
    have z5:=zV (U jk) 5 (by show 5 < 8; omega)
    have z6:=zV (U jk) 6 (by show 6 < 8; omega)
    have z7:=zV (U jk) 7 (by show 7 < 8; omega)
    have qL:=hide (U jA)
    go_wp2_with fail
    have uz:Hid (Bx (w5.setCells w.heap.size 0 [.int .i64 ty.t.gr,.int .i64 ty.t.ac,.int .i64 ty.t.rf,.int .i64 ty.t.tr,.int .i64 ty.t.vo,.int .i64 ty.t.no,.int .i64 ty.t.li,.int .i64 ty.t.le]) w.heap.size [.int .i64 ty.t.gr,.int .i64 ty.t.ac,.int .i64 ty.t.rf,.int .i64 ty.t.tr,.int .i64 ty.t.vo,.int .i64 ty.t.no,.int .i64 ty.t.li,.int .i64 ty.t.le]):=dT (U jk) rfl
    have HEM:Hid (Below w.heap.size w (w5.setCells w.heap.size 0 [.int .i64 ty.t.gr,.int .i64 ty.t.ac,.int .i64 ty.t.rf,.int .i64 ty.t.tr,.int .i64 ty.t.vo,.int .i64 ty.t.no,.int .i64 ty.t.li,.int .i64 ty.t.le])):=dY (U qL) (Nat.le_refl _) _
    change bodyPost _ _ _ _ _ (w5.setCells w.heap.size 0 [.int .i64 ty.t.gr,.int .i64 ty.t.ac,.int .i64 ty.t.rf,.int .i64 ty.t.tr,.int .i64 ty.t.vo,.int .i64 ty.t.no,.int .i64 ty.t.li,.int .i64 ty.t.le])
    generalize w5.setCells w.heap.size 0 [.int .i64 ty.t.gr,.int .i64 ty.t.ac,.int .i64 ty.t.rf,.int .i64 ty.t.tr,.int .i64 ty.t.vo,.int .i64 ty.t.no,.int .i64 ty.t.li,.int .i64 ty.t.le] = WF at uz HEM ⊢
    obtain ⟨d0,d1,d2,d3,d4,d5,d6,d7⟩:=t8c (U uz)
    refine bodyPost_ret (by simp [results,Tryz.results21,go_sem,d0,d1,d2,d3,d4,d5,d6,d7]; try rfl) rfl ?_
    exact ⟨rfl,U HEM⟩
  ·have xE:=hide ((U uO).trans (xX.mono (U uO).size))
   have uL:=hide (bT (U kF) xX hs0')
   rw [hto] at HF
   have HE:hj = (tot0,3):=U HF
   subst HE
   clear xX HF hto
   obtain ⟨t0,t1,t2,t3,t4,t5,t6,t7⟩:=t8c (U uL)
   have z0:=zV (U uL) 0 (by show 0 < 8; omega)
   have z1:=zV (U uL) 1 (by show 1 < 8; omega)
   have z2:=zV (U uL) 2 (by show 2 < 8; omega)
   have z3:=zV (U uL) 3 (by show 3 < 8; omega)
   have z4:=zV (U uL) 4 (by show 4 < 8; omega)
   have z5:=zV (U uL) 5 (by show 5 < 8; omega)
   have z6:=zV (U uL) 6 (by show 6 < 8; omega)
   have z7:=zV (U uL) 7 (by show 7 < 8; omega)
   have qL:=hide (U xE)
   go_wp2_with fail
   have uz:Hid (Bx (w2.setCells w.heap.size 0 [.int .i64 0,.int .i64 0,.int .i64 0,.int .i64 0,.int .i64 0,.int .i64 0,.int .i64 0,.int .i64 0]) w.heap.size [.int .i64 0,.int .i64 0,.int .i64 0,.int .i64 0,.int .i64 0,.int .i64 0,.int .i64 0,.int .i64 0]):=dT (U uL) rfl
   have HEM:Hid (Below w.heap.size w (w2.setCells w.heap.size 0 [.int .i64 0,.int .i64 0,.int .i64 0,.int .i64 0,.int .i64 0,.int .i64 0,.int .i64 0,.int .i64 0])):=dY (U qL) (Nat.le_refl _) _
   change bodyPost _ _ _ _ _ (w2.setCells w.heap.size 0 [.int .i64 0,.int .i64 0,.int .i64 0,.int .i64 0,.int .i64 0,.int .i64 0,.int .i64 0,.int .i64 0])
   generalize w2.setCells w.heap.size 0 [.int .i64 0,.int .i64 0,.int .i64 0,.int .i64 0,.int .i64 0,.int .i64 0,.int .i64 0,.int .i64 0] = WF at uz HEM ⊢
   obtain ⟨d0,d1,d2,d3,d4,d5,d6,d7⟩:=t8c (U uz)
   refine bodyPost_ret (by simp [results,Tryz.results21,go_sem,d0,d1,d2,d3,d4,d5,d6,d7]; try rfl) rfl ?_
   exact ⟨rfl,U HEM⟩
 ·have HE:=(U HF).trans (if_pos hc)
  have hcb:(cntF gs.length != 0) = true:=by simpa using hc
  generalize cntF gs.length = cf at HE hcb ⊢
  subst HE
  clear HF hc
  obtain ⟨t0,t1,t2,t3,t4,t5,t6,t7⟩:=t8c (U kF)
  have z0:=zV (U kF) 0 (by show 0 < 8; omega)
  have z1:=zV (U kF) 1 (by show 1 < 8; omega)
  have z2:=zV (U kF) 2 (by show 2 < 8; omega)
  have z3:=zV (U kF) 3 (by show 3 < 8; omega)
  have z4:=zV (U kF) 4 (by show 4 < 8; omega)
  have z5:=zV (U kF) 5 (by show 5 < 8; omega)
  have z6:=zV (U kF) 6 (by show 6 < 8; omega)
  have z7:=zV (U kF) 7 (by show 7 < 8; omega)
  have qL:=hide (U uO)
  go_wp2_with fail
  have uz:Hid (Bx (w1.setCells w.heap.size 0 [.int .i64 0,.int .i64 0,.int .i64 0,.int .i64 0,.int .i64 0,.int .i64 0,.int .i64 0,.int .i64 0]) w.heap.size [.int .i64 0,.int .i64 0,.int .i64 0,.int .i64 0,.int .i64 0,.int .i64 0,.int .i64 0,.int .i64 0]):=dT (U kF) rfl
  have HEM:Hid (Below w.heap.size w (w1.setCells w.heap.size 0 [.int .i64 0,.int .i64 0,.int .i64 0,.int .i64 0,.int .i64 0,.int .i64 0,.int .i64 0,.int .i64 0])):=dY (U qL) (Nat.le_refl _) _
  change bodyPost _ _ _ _ _ (w1.setCells w.heap.size 0 [.int .i64 0,.int .i64 0,.int .i64 0,.int .i64 0,.int .i64 0,.int .i64 0,.int .i64 0,.int .i64 0])
  generalize w1.setCells w.heap.size 0 [.int .i64 0,.int .i64 0,.int .i64 0,.int .i64 0,.int .i64 0,.int .i64 0,.int .i64 0,.int .i64 0] = WF at uz HEM ⊢
  obtain ⟨d0,d1,d2,d3,d4,d5,d6,d7⟩:=t8c (U uz)
  refine bodyPost_ret (by simp [results,Tryz.results21,go_sem,d0,d1,d2,d3,d4,d5,d6,d7]; try rfl) rfl ?_
  exact ⟨rfl,U HEM⟩
theorem tail_kinds {n:Int} {l:List Od} {c:Cm} (hg:GoodL l):∀ e ∈ (stE n l c).drop 1,e.kind ≠ 1∧e.kind ≠ 2:=by
 rw [stE]
 by_cases h0:refR n l c = 0
 ·rw [if_pos h0]
  by_cases hk:c.k = 1
  ·rw [if_pos hk]
   have hq:=cC h0 hk
   obtain ⟨-,s2⟩:=matL_sums (c:=c) (id:=n) 21 l c.q [] hg (by omega) hq.2 (by simp)
   rw [accE,List.cons_append,yV,List.drop_zero]
   intro e he
   rcases List.mem_append.1 he with he | he
   ·have:=(s2 e he).1
    omega
   ·split at he
    ·rw [List.mem_singleton.1 he]
     show (if aO c.t = true then (4:Int) else 5) ≠ 1∧(if aO c.t = true then (4:Int) else 5) ≠ 2
     split <;> decide
    ·cases he
  ·rw [if_neg hk]
   split
   ·split <;> simp
   ·split
    ·simp
    ·intro e he
     simp only [yV,List.drop_zero] at he
     obtain ⟨o,_,rfl⟩:=List.mem_map.1 he
     exact ⟨by show (9:Int) ≠ 1; decide,by show (9:Int) ≠ 2; decide⟩
 ·rw [if_neg h0]; simp
theorem matL_zc {c:Cm} {id:Int}:∀ (n:Nat) (l:List Od) (left:Int) (ts:List Ev),(∀ e ∈ ts,e.cmd = zCm)→∀ e ∈ (matL c id n l left ts).2.2,e.cmd = zCm
 | 0,l,left,ts,h=>h
 | n + 1,l,left,ts,h=>by
  rw [matL]
  split
  ·split
   ·exact h
   ·split
    ·refine matL_zc n _ _ _ fun e he=>?_
     rcases List.mem_append.1 he with he | he
     ·exact h e he
     ·rw [List.mem_singleton.1 he]; rfl
    ·exact h
  ·exact h
theorem tag_all {n:Int} {l:List Od} {c:Cm} (hg:GoodL l):∀ e ∈ stE n l c,e.cmd.g.size ≤ 13:=by
 have hz:zCm.g.size ≤ 13:=by decide
 obtain ⟨e0,es,Q,N,h3,-⟩:=told_one (n:=n) c hg
 have hh:∀ e ∈ (stE n l c).drop 1,e.cmd = zCm:=by
  rw [stE]
  by_cases h0:refR n l c = 0
  ·rw [if_pos h0]
   by_cases hk:c.k = 1
   ·rw [if_pos hk,accE,List.cons_append,yV,List.drop_zero]
    intro e he
    rcases List.mem_append.1 he with he | he
    ·exact matL_zc 21 l c.q [] (by simp) e he
    ·split at he
     ·rw [List.mem_singleton.1 he]
     ·cases he
   ·rw [if_neg hk]
    split
    ·split <;> simp
    ·split
     ·simp
     ·intro e he
      simp only [yV,List.drop_zero] at he
      obtain ⟨o,_,rfl⟩:=List.mem_map.1 he
      rfl
  ·rw [if_neg h0]; simp
 rw [Q] at hh ⊢
 intro e he
 rcases List.mem_cons.1 he with rfl | he
 ·have hk:e.kind = 1 ∨ e.kind = 2 ∨ e.kind = 6 ∨ e.kind = 7 ∨ e.kind = 8:=by simpa [dg] using N
  have hm:e.kind = 6 ∨ e.kind = 7 ∨ e.kind = 8→e.cmd = zCm:=fun h=>by
   have h4:stE n l c = e :: es:=Q
   rw [stE] at h4
   by_cases h0:refR n l c = 0
   ·rw [if_pos h0] at h4
    by_cases hk1:c.k = 1
    ·rw [if_pos hk1,accE,List.cons_append] at h4
     have:=(List.cons.inj h4).1
     rw [← this] at h
     exfalso
     simp at h
    ·rw [if_neg hk1] at h4
     split at h4
     ·split at h4
      ·rw [← (List.cons.inj h4).1]
      ·cases h4
     ·split at h4
      ·rw [← (List.cons.inj h4).1]
      ·rw [← (List.cons.inj h4).1]
   ·rw [if_neg h0] at h4
    rw [← (List.cons.inj h4).1] at h
    exfalso
    simp at h
  rcases hk with hk | hk | hk | hk | hk
  ·unfold aY at h3; rw [if_pos hk] at h3; exact h3
  ·unfold aY at h3; rw [if_neg (by omega),if_pos hk] at h3; exact h3
  ·rw [hm (.inl hk)]; exact hz
  ·rw [hm (.inr (.inl hk))]; exact hz
  ·rw [hm (.inr (.inr hk))]; exact hz
 ·rw [hh e he]; exact hz
structure TtN (k:Int) (t:Tot):Prop where
 gr:t.gr = k
 a0:0 ≤ t.ac
 r0:0 ≤ t.rf
 s:t.ac + t.rf ≤ k
 li:t.li = 0
theorem cnt_rest:∀ (es:List Ev) (t:Tot),(∀ e ∈ es,e.kind ≠ 1∧e.kind ≠ 2)→(es.foldl cntE t).gr = t.gr∧(es.foldl cntE t).ac = t.ac∧(es.foldl cntE t).rf = t.rf∧(es.foldl cntE t).li = t.li
 | [],t,_=>⟨rfl,rfl,rfl,rfl⟩
 | e :: es,t,h=>by
  rw [List.foldl_cons]
  obtain ⟨Q,N⟩:=h e (by simp)
  obtain ⟨a,b,c,d⟩:=cnt_rest es (cntE t e) fun x hx=>h x (by simp [hx])
  have e1:(cntE t e).gr = t.gr∧(cntE t e).ac = t.ac∧(cntE t e).rf = t.rf∧(cntE t e).li = t.li:=by
   unfold cntE
   rw [if_neg Q,if_neg N]
   split <;> exact ⟨rfl,rfl,rfl,rfl⟩
  exact ⟨a.trans e1.1,b.trans e1.2.1,c.trans e1.2.2.1,d.trans e1.2.2.2⟩
theorem tn_group {k:Int} {t:Tot} {n:Int} {l:List Od} {c:Cm} (hg:GoodL l) (h:TtN k t) (h0:0 ≤ k) (Q:k ≤ 1000):TtN (k + 1) (wgT t (stE n l c)):=by
 obtain ⟨e,es,he,-⟩:=told_one (n:=n) c hg
 have ht:=tail_kinds (n:=n) (c:=c) hg
 rw [he] at ht ⊢
 rw [yV,List.drop_zero] at ht
 unfold wgT
 rw [List.foldl_cons]
 obtain ⟨a,b,d,f⟩:=cnt_rest es (cntE { t with gr:=wrap64 (t.gr + 1) } e) ht
 obtain ⟨p1,p2,p3,p4,p5⟩:=h
 have w1:wrap64 (t.gr + 1) = t.gr + 1:=by unfold wrap64; omega
 have w2:wrap64 (t.ac + 1) = t.ac + 1:=by unfold wrap64; omega
 have w3:wrap64 (t.rf + 1) = t.rf + 1:=by unfold wrap64; omega
 have hm:TtN (k + 1) (cntE { t with gr:=wrap64 (t.gr + 1) } e):=by
  rw [w1]
  unfold cntE
  split
  ·simp only [w2]
   exact ⟨by show t.gr + 1 = k + 1; omega,by show 0 ≤ t.ac + 1; omega,p3,by show t.ac + 1 + t.rf ≤ k + 1; omega,p5⟩
  ·split
   ·simp only [w3]
    exact ⟨by show t.gr + 1 = k + 1; omega,p2,by show 0 ≤ t.rf + 1; omega,by show t.ac + (t.rf + 1) ≤ k + 1; omega,p5⟩
   ·split
    ·exact ⟨by show t.gr + 1 = k + 1; omega,p2,p3,by show t.ac + t.rf ≤ k + 1; omega,p5⟩
    ·exact ⟨by show t.gr + 1 = k + 1; omega,p2,p3,by show t.ac + t.rf ≤ k + 1; omega,p5⟩
 exact ⟨a.trans hm.gr,by rw [b]; exact hm.a0,by rw [d]; exact hm.r0,by rw [b,d]; exact hm.s,f.trans hm.li⟩
theorem tn_run (cs:List Cm) (h:cs.length ≤ 200):∀ k,k ≤ cs.length→TtN k (runS (cs.take k)).t:=by
 intro k
 induction k with
 | zero=>intro _; exact ⟨rfl,Int.le_refl _,Int.le_refl _,Int.le_refl _,rfl⟩
 | succ k ih =>
  intro hk
  obtain ⟨c,hc⟩:∃ c,cs[k]? = some c:=⟨_,yI (by omega)⟩
  rw [cZ cs hc]
  have Q:=(da cs h k (by omega)).1.good
  have:=tn_group (n:=(runS (cs.take k)).n) (c:=c) Q (ih (by omega)) (by omega) (by omega)
  have e:((k + 1:Nat):Int) = (k:Int) + 1:=by omega
  rw [e]; exact this
theorem wb_li:∀ (l:List Od) (t:Tot),0 ≤ t.li→t.li + l.length ≤ 1000→(wbT t l).li = t.li + l.length∧(wbT t l).gr = t.gr∧(wbT t l).ac = t.ac∧(wbT t l).rf = t.rf∧(wbT t l).tr = t.tr∧(wbT t l).vo = t.vo∧(wbT t l).no = t.no
 | [],t,_,_=>⟨by show t.li = t.li + ((0:Nat):Int); omega,rfl,rfl,rfl,rfl,rfl,rfl⟩
 | o :: l,t,h0,Q=>by
  rw [List.length_cons] at Q
  have w:wrap64 (t.li + 1) = t.li + 1:=by unfold wrap64; omega
  have e:(cntO t o).li = t.li + 1:=w
  obtain ⟨a,b⟩:=wb_li l (cntO t o) (by rw [e]; omega) (by rw [e]; omega)
  refine ⟨?_,b⟩
  show (wbT (cntO t o) l).li = _
  rw [a,e,List.length_cons]; omega
theorem run_tot:∀ (cs:List Cm) (s:RunSt),(cs.foldl aX s).t = (evsG s.n s.l cs).foldl wgT s.t
 | [],s=>rfl
 | c :: cs,s=>by rw [List.foldl_cons,run_tot cs (aX s c),evsG,List.foldl_cons]; rfl
structure TotOk (ty:RunSt):Prop where
 tt:ttF ty.g = (ty.t,0)
 gr:ty.t.gr = ty.g.length
 a0:0 ≤ ty.t.ac
 r0:0 ≤ ty.t.rf
 ar:ty.t.ac + ty.t.rf ≤ ty.g.length
 vo:(ty.g.foldl wgT tot0).vo = ty.t.vo
 no:(ty.g.foldl wgT tot0).no = ty.t.no
 tr:(ty.g.foldl wgT tot0).tr = ty.t.tr
 li:ty.t.li = ty.l.length
 few:∀ es ∈ ty.g,es.length ≤ 1000
 tags:∀ g ∈ ty.g,∀ e ∈ g,e.cmd.g.size ≤ maxLen
 len:ty.l.length ≤ 20
theorem tot_ok (cs:List Cm) (h:cs.length ≤ 200):TotOk (rsF cs)∧(rsF cs).g.length = cs.length:=by
 obtain ⟨ts,t1,t2,t3,t4,t5⟩:=told_run cs h
 have jX:(rsF cs).g.length = cs.length:=(rs_few cs h).1
 have hfew:=(rs_few cs h).2
 have htt:ttF (rsF cs).g = ((rsF cs).t,0):=by
  rw [ttF,if_neg (by rw [jX,dN.2 h]; decide),t1]
  simp only
  rw [t4,if_pos (gsB_self _)]
 have hn:=tn_run cs h cs.length (Nat.le_refl _)
 rw [xa (Nat.le_refl _)] at hn
 have hgood:=(run_inv cs h).1.good
 have kz:=hgood.len
 obtain ⟨w1,w2,w3,w4,w5,w6,w7⟩:=wb_li (runS cs).l (runS cs).t (by rw [hn.li]; decide) (by rw [hn.li]; omega)
 have hg:(rsF cs).g = (runS cs).g:=by rw [rsF,if_pos h]
 have ht:(rsF cs).t = wbT (runS cs).t (runS cs).l:=by rw [rsF,if_pos h]
 have hl:(rsF cs).l = (runS cs).l:=by rw [rsF,if_pos h]
 have hf:(rsF cs).g.foldl wgT tot0 = (runS cs).t:=by
  rw [hg]
  unfold runS
  rw [evs_run,run_tot]; rfl
 refine ⟨⟨htt,?_,?_,?_,?_,?_,?_,?_,?_,hfew,?_,by rw [hl]; exact kz⟩,jX⟩
 ·rw [ht,w2,jX]; exact hn.gr
 ·rw [ht,w3]; exact hn.a0
 ·rw [ht,w4]; exact hn.r0
 ·rw [ht,w3,w4,jX]; exact hn.s
 ·rw [hf,ht,w6]
 ·rw [hf,ht,w7]
 ·rw [hf,ht,w5]
 ·rw [ht,w1,hl,hn.li]; omega
 ·intro g hgm e he
  obtain ⟨i,hi⟩:=List.getElem?_of_mem hgm
  have xL:i < cs.length:=by rw [← jX]; exact (yH.1 hi).1
  obtain ⟨c,Q,N⟩:=run_group cs cs.length (Nat.le_refl _) i xL
  rw [xa (Nat.le_refl _),← hg,hi] at N
  obtain rfl:=Option.some.inj N
  have:=tag_all (n:=(runS (cs.take i)).n) (c:=c) (da cs h i (by omega)).1.good e he
  unfold maxLen; omega
end Go.Proofs.YtbakanofkghmiaaGreat
