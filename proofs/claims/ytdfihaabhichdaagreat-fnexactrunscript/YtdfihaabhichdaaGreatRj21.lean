/-
  A group's events counted, by the program: proved by walking the function.
-/
import Derived.Test.YtdfihaabhichdaaGreatRj20
namespace Go.Proofs.YtdfihaabhichdaaGreat
open Go.RowKit
set_option linter.unusedVariables false

structure Tot where
 gr:Int
 ac:Int
 rf:Int
 tr:Int
 vo:Int
 no:Int
 li:Int
 le:Int
def Tot.vs (t:Tot):List Value:=[.int .i64 t.gr,.int .i64 t.ac,.int .i64 t.rf,.int .i64 t.tr,.int .i64 t.vo,.int .i64 t.no,.int .i64 t.li,.int .i64 t.le]
def cntE (t:Tot) (e:Ev):Tot :=
 if e.kind = 1 then { t with ac:=wrap64 (t.ac + 1) } else if e.kind = 2 then { t with rf:=wrap64 (t.rf + 1) }
 else if e.kind = 3 then { t with tr:=wrap64 (t.tr + 1),vo:=wrap64 (t.vo + e.qty),no:=wrap64 (t.no + wrap64 (e.qty * e.price)) } else t
def wgT (t:Tot) (ts:List Ev):Tot:=ts.foldl cntE { t with gr:=wrap64 (t.gr + 1) }
theorem wg_step (t:Tot) (ts:List Ev) {k:Nat} {e:Ev} (h:ts[k]? = some e):wgT t (ts.take (k + 1)) = cntE (wgT t (ts.take k)) e:=by
 unfold wgT
 rw [List.take_add_one,h,List.foldl_append]; rfl
theorem zaS {W:World} {b j:Nat} {cs:List Value} {u:Value} (h:W.rangeAt b 0 cs) (hj:j < cs.length):(W.setCell ⟨b,j,none⟩ u).rangeAt b 0 (cs.set j u):=by
 intro i v hi
 rw [Nat.zero_add]
 by_cases hij:j = i
 ·subst hij
  rw [List.getElem?_set_self hj] at hi
  cases hi
  have:=h j _ (List.getElem?_eq_getElem hj)
  rw [Nat.zero_add] at this
  exact World.cell?_setCell_same _ _ _ this
 ·rw [List.getElem?_set_ne hij] at hi
  have:=h i v hi
  rw [Nat.zero_add] at this
  exact (World.cell?_setCell_other _ _ _ _ (zac hij)).trans this
theorem keep8 {w W:World} {S:Nat} {cs:List Value} (h:W.rangeAt S 0 cs∧W.there S 0 8∧W.there (S + 1) 0 8∧Below S w W∧S + 1 + 1 ≤ W.heap.size) (j:Nat) (hj:j < cs.length) (u:Value):(W.setCell ⟨S,j,none⟩ u).rangeAt S 0 (cs.set j u)∧(W.setCell ⟨S,j,none⟩ u).there S 0 8∧(W.setCell ⟨S,j,none⟩ u).there (S + 1) 0 8∧Below S w (W.setCell ⟨S,j,none⟩ u)∧S + 1 + 1 ≤ (W.setCell ⟨S,j,none⟩ u).heap.size :=
 ⟨zaS h.1 hj,zH h.2.1,zH h.2.2.1,h.2.2.2.1.setCell (p:=⟨S,j,none⟩) (Nat.le_refl _) _,by simp only [World.setCell,Array.size_modify]; exact h.2.2.2.2⟩
theorem zav {W:World} {b o:Nat} {e:Ev} (h:W.rangeAt b o e.vs):W.cell? ⟨b,o,none⟩ = some (.int .i64 e.kind)∧W.cell? ⟨b,o + 1,none⟩ = some (.int .i64 e.cmd.k)∧W.cell? ⟨b,o + 2,none⟩ = some (.int .i64 e.cmd.s)∧W.cell? ⟨b,o + 3,none⟩ = some (.int .i64 e.cmd.t)∧W.cell? ⟨b,o + 4,none⟩ = some (.int .i64 e.cmd.l)∧W.cell? ⟨b,o + 5,none⟩ = some (.int .i64 e.cmd.q)∧W.cell? ⟨b,o + 6,none⟩ = some (.int .i64 e.cmd.i)∧W.cell? ⟨b,o + 7,none⟩ = some (.float .f64 e.cmd.p)∧W.cell? ⟨b,o + 8,none⟩ = some (.string e.cmd.g)∧W.cell? ⟨b,o + 9,none⟩ = some (.int .i64 e.id)∧W.cell? ⟨b,o + 10,none⟩ = some (.int .i64 e.other)∧W.cell? ⟨b,o + 11,none⟩ = some (.int .i64 e.qty)∧W.cell? ⟨b,o + 12,none⟩ = some (.int .i64 e.price)∧W.cell? ⟨b,o + 13,none⟩ = some (.int .i64 e.reason):=⟨h 0 _ rfl,h 1 _ rfl,h 2 _ rfl,h 3 _ rfl,h 4 _ rfl,h 5 _ rfl,h 6 _ rfl,h 7 _ rfl,h 8 _ rfl,h 9 _ rfl,h 10 _ rfl,h 11 _ rfl,h 12 _ rfl,h 13 _ rfl⟩
set_option maxRecDepth 100000 in
set_option maxHeartbeats 3200000 in
theorem withGroup_any (t:Tot) (v:Value) (ts:List Ev) (w:World) (hr:RdR Ev.vs 14 w v ts) :
  Calls Tryz.prog 111 #[.agg #[.int .i64 t.gr,.int .i64 t.ac,.int .i64 t.rf,.int .i64 t.tr,.int .i64 t.vo,.int .i64 t.no,.int .i64 t.li,.int .i64 t.le],v] w fun r w'=>r = .returned (.agg #[.int .i64 (wgT t ts).gr,.int .i64 (wgT t ts).ac,.int .i64 (wgT t ts).rf,.int .i64 (wgT t ts).tr,.int .i64 (wgT t ts).vo,.int .i64 (wgT t ts).no,.int .i64 (wgT t ts).li,.int .i64 (wgT t ts).le])∧Below w.heap.size w w':=by
 obtain ⟨a,cap,rfl,hlen,hc⟩:=hr
 have hcell:∀ (k:Nat) (c:Ev),ts[k]? = some c→∃ b off,a = some ⟨b,off,none⟩∧b < w.heap.size∧w.rangeAt b (off + k * 14) c.vs:=by
  intro k c hk
  obtain ⟨b,off,h1,h2,h3⟩:=hc (by intro h; rw [h] at hk; simp at hk)
  exact ⟨b,off,h1,h2,h3 k c hk⟩
 have HC:=hide hcell
 clear hcell hc
 have hsf:=sfl
 have hs1:(w.alloc (Obj.cells #[.int .i64 t.gr,.int .i64 t.ac,.int .i64 t.rf,.int .i64 t.tr,.int .i64 t.vo,.int .i64 t.no,.int .i64 t.li,.int .i64 t.le] 48)).heap.size = w.heap.size + 1:=zf _ _
 have hs2:((w.alloc (Obj.cells #[.int .i64 t.gr,.int .i64 t.ac,.int .i64 t.rf,.int .i64 t.tr,.int .i64 t.vo,.int .i64 t.no,.int .i64 t.li,.int .i64 t.le] 48)).alloc (Obj.cells #[.int .i64 0,.int .i64 0,.int .i64 0,.int .i64 0,.int .i64 0,.int .i64 0,.int .i64 0,.int .i64 0] 48)).heap.size = w.heap.size + 1 + 1:=by rw [zf,hs1]
 have r1:=zg w [.int .i64 t.gr,.int .i64 t.ac,.int .i64 t.rf,.int .i64 t.tr,.int .i64 t.vo,.int .i64 t.no,.int .i64 t.li,.int .i64 t.le] 48
 have t1:=zw w [.int .i64 t.gr,.int .i64 t.ac,.int .i64 t.rf,.int .i64 t.tr,.int .i64 t.vo,.int .i64 t.no,.int .i64 t.li,.int .i64 t.le] 48
 have t2:=zw (w.alloc (Obj.cells #[.int .i64 t.gr,.int .i64 t.ac,.int .i64 t.rf,.int .i64 t.tr,.int .i64 t.vo,.int .i64 t.no,.int .i64 t.li,.int .i64 t.le] 48)) [.int .i64 0,.int .i64 0,.int .i64 0,.int .i64 0,.int .i64 0,.int .i64 0,.int .i64 0,.int .i64 0] 48
 rw [hs1] at t2
 have b1:Below w.heap.size w (w.alloc (Obj.cells #[.int .i64 t.gr,.int .i64 t.ac,.int .i64 t.rf,.int .i64 t.tr,.int .i64 t.vo,.int .i64 t.no,.int .i64 t.li,.int .i64 t.le] 48)):=(Below.refl _ _).alloc (Nat.le_refl _) _
 have b2:Below (w.heap.size + 1) (w.alloc (Obj.cells #[.int .i64 t.gr,.int .i64 t.ac,.int .i64 t.rf,.int .i64 t.tr,.int .i64 t.vo,.int .i64 t.no,.int .i64 t.li,.int .i64 t.le] 48)) ((w.alloc (Obj.cells #[.int .i64 t.gr,.int .i64 t.ac,.int .i64 t.rf,.int .i64 t.tr,.int .i64 t.vo,.int .i64 t.no,.int .i64 t.li,.int .i64 t.le] 48)).alloc (Obj.cells #[.int .i64 0,.int .i64 0,.int .i64 0,.int .i64 0,.int .i64 0,.int .i64 0,.int .i64 0,.int .i64 0] 48)):=(Below.refl _ _).alloc (by omega) _
 have HX:Hid (_∧_∧_):=⟨zb r1 b2 (by omega),zd t1 b2 (by omega),t2⟩
 have HB:=hide (b1.trans (b2.mono (by omega)))
 have HS:=hide hs2
 clear hs1 hs2 r1 t1 t2 b1 b2
 go_enter Tryz.func111,Tryz.ntmps111
 refine wp_seq_k fun K hK=>?_
 have HK1:=hide hK
 clear hK
 go_wp2_with fail
 refine za HK1 _ _ ?_
 clear HK1
 generalize ((w.alloc (Obj.cells #[.int .i64 t.gr,.int .i64 t.ac,.int .i64 t.rf,.int .i64 t.tr,.int .i64 t.vo,.int .i64 t.no,.int .i64 t.li,.int .i64 t.le] 48)).alloc (Obj.cells #[.int .i64 0,.int .i64 0,.int .i64 0,.int .i64 0,.int .i64 0,.int .i64 0,.int .i64 0,.int .i64 0] 48)) = X at HX HB HS ⊢
 have HX:Hid (X.rangeAt w.heap.size 0 [.int .i64 t.gr,.int .i64 t.ac,.int .i64 t.rf,.int .i64 t.tr,.int .i64 t.vo,.int .i64 t.no,.int .i64 t.li,.int .i64 t.le]∧X.there w.heap.size 0 8∧X.there (w.heap.size + 1) 0 8):=za HX
 have c0:X.cell? ⟨w.heap.size,0,none⟩ = some (.int .i64 t.gr):=(za HX).1 0 _ rfl
 obtain ⟨y0,z0,q0⟩:=zc (za HX).2.1 (j:=0) (by omega)
 clear z0 y0
 refine wp_seq_k fun K hK=>?_
 have HK1:=hide hK
 clear hK
 go_wp2_with fail
 refine za HK1 _ _ ?_
 clear HK1
 have HST:Hid (World.rangeAt (X.setCell ⟨w.heap.size,0,none⟩ (.int .i64 (wrap64 (t.gr + 1)))) w.heap.size 0 (wgT t (ts.take 0)).vs∧World.there (X.setCell ⟨w.heap.size,0,none⟩ (.int .i64 (wrap64 (t.gr + 1)))) w.heap.size 0 8∧World.there (X.setCell ⟨w.heap.size,0,none⟩ (.int .i64 (wrap64 (t.gr + 1)))) (w.heap.size + 1) 0 8∧Below w.heap.size w (X.setCell ⟨w.heap.size,0,none⟩ (.int .i64 (wrap64 (t.gr + 1))))∧(X.setCell ⟨w.heap.size,0,none⟩ (.int .i64 (wrap64 (t.gr + 1)))).heap.size = w.heap.size + 1 + 1):=by
  refine ⟨?_,zH (za HX).2.1,zH (za HX).2.2,(za HB).setCell (p:=⟨w.heap.size,0,none⟩) (Nat.le_refl _) _,by simp [World.setCell]; exact za HS⟩
  intro j u hj
  rw [Nat.zero_add]
  match j,hj with
  | 0,hj=>cases hj; exact World.cell?_setCell_same _ _ _ c0
  | 1,hj=>cases hj; exact (World.cell?_setCell_other _ _ _ _ (zac (by omega))).trans ((za HX).1 1 _ rfl)
  | 2,hj=>cases hj; exact (World.cell?_setCell_other _ _ _ _ (zac (by omega))).trans ((za HX).1 2 _ rfl)
  | 3,hj=>cases hj; exact (World.cell?_setCell_other _ _ _ _ (zac (by omega))).trans ((za HX).1 3 _ rfl)
  | 4,hj=>cases hj; exact (World.cell?_setCell_other _ _ _ _ (zac (by omega))).trans ((za HX).1 4 _ rfl)
  | 5,hj=>cases hj; exact (World.cell?_setCell_other _ _ _ _ (zac (by omega))).trans ((za HX).1 5 _ rfl)
  | 6,hj=>cases hj; exact (World.cell?_setCell_other _ _ _ _ (zac (by omega))).trans ((za HX).1 6 _ rfl)
  | 7,hj=>cases hj; exact (World.cell?_setCell_other _ _ _ _ (zac (by omega))).trans ((za HX).1 7 _ rfl)
  | j + 8,hj=>simp [Tot.vs] at hj
 have HSU:Hid (_∧_∧_∧_∧_):=⟨(za HST).1,(za HST).2.1,(za HST).2.2.1,(za HST).2.2.2.1,Nat.le_of_eq (za HST).2.2.2.2.symm⟩
 generalize (X.setCell ⟨w.heap.size,0,none⟩ (.int .i64 (wrap64 (t.gr + 1)))) = X1 at HST HSU ⊢
 clear c0 q0 HX HB HS HST
 go_wp2_with fail
 go_loopw [13] (fun iv wr=>∃ (k:Nat),k ≤ ts.length∧iv = .int .i64 k∧Hid (wr.rangeAt w.heap.size 0 (wgT t (ts.take k)).vs∧wr.there w.heap.size 0 8∧wr.there (w.heap.size + 1) 0 8∧Below w.heap.size w wr∧w.heap.size + 1 + 1 ≤ wr.heap.size)) (fun iv _=>ts.length - (intOf iv).toNat)
 case atStart=>exact ⟨0,Nat.zero_le _,rfl,za HSU⟩
 case round =>
  obtain ⟨k,hk,rfl,hin⟩:=hrel
  by_cases hlt:k < ts.length
  ·obtain ⟨e,hke⟩:∃ e,ts[k]? = some e:=⟨_,List.getElem?_eq_getElem hlt⟩
   obtain ⟨b,off,rfl,hb,hcl⟩:=za HC k e hke
   have HNX:=hide (wg_step t ts hke)
   have hlt':(k:Int) < ts.length:=by omega
   have hse:=(za hin).2.2.2.2
   obtain ⟨g0,g1,g2,g3,g4,g5,g6,g7,g8,g9,g10,g11,g12,g13⟩:=zav (zb hcl (za hin).2.2.2.1 hb)
   have hbY:Below wr.heap.size wr (wr.alloc (Obj.cells #[.int .i64 e.kind,.int .i64 e.cmd.k,.int .i64 e.cmd.s,.int .i64 e.cmd.t,.int .i64 e.cmd.l,.int .i64 e.cmd.q,.int .i64 e.cmd.i,.float .f64 e.cmd.p,.string e.cmd.g,.int .i64 e.id,.int .i64 e.other,.int .i64 e.qty,.int .i64 e.price,.int .i64 e.reason] 80)):=(Below.refl _ _).alloc (Nat.le_refl _) _
   have HY:Hid (World.rangeAt (wr.alloc (Obj.cells #[.int .i64 e.kind,.int .i64 e.cmd.k,.int .i64 e.cmd.s,.int .i64 e.cmd.t,.int .i64 e.cmd.l,.int .i64 e.cmd.q,.int .i64 e.cmd.i,.float .f64 e.cmd.p,.string e.cmd.g,.int .i64 e.id,.int .i64 e.other,.int .i64 e.qty,.int .i64 e.price,.int .i64 e.reason] 80)) w.heap.size 0 (wgT t (ts.take k)).vs∧World.there (wr.alloc (Obj.cells #[.int .i64 e.kind,.int .i64 e.cmd.k,.int .i64 e.cmd.s,.int .i64 e.cmd.t,.int .i64 e.cmd.l,.int .i64 e.cmd.q,.int .i64 e.cmd.i,.float .f64 e.cmd.p,.string e.cmd.g,.int .i64 e.id,.int .i64 e.other,.int .i64 e.qty,.int .i64 e.price,.int .i64 e.reason] 80)) w.heap.size 0 8∧World.there (wr.alloc (Obj.cells #[.int .i64 e.kind,.int .i64 e.cmd.k,.int .i64 e.cmd.s,.int .i64 e.cmd.t,.int .i64 e.cmd.l,.int .i64 e.cmd.q,.int .i64 e.cmd.i,.float .f64 e.cmd.p,.string e.cmd.g,.int .i64 e.id,.int .i64 e.other,.int .i64 e.qty,.int .i64 e.price,.int .i64 e.reason] 80)) (w.heap.size + 1) 0 8∧Below w.heap.size w (wr.alloc (Obj.cells #[.int .i64 e.kind,.int .i64 e.cmd.k,.int .i64 e.cmd.s,.int .i64 e.cmd.t,.int .i64 e.cmd.l,.int .i64 e.cmd.q,.int .i64 e.cmd.i,.float .f64 e.cmd.p,.string e.cmd.g,.int .i64 e.id,.int .i64 e.other,.int .i64 e.qty,.int .i64 e.price,.int .i64 e.reason] 80))∧w.heap.size + 1 + 1 ≤ (wr.alloc (Obj.cells #[.int .i64 e.kind,.int .i64 e.cmd.k,.int .i64 e.cmd.s,.int .i64 e.cmd.t,.int .i64 e.cmd.l,.int .i64 e.cmd.q,.int .i64 e.cmd.i,.float .f64 e.cmd.p,.string e.cmd.g,.int .i64 e.id,.int .i64 e.other,.int .i64 e.qty,.int .i64 e.price,.int .i64 e.reason] 80)).heap.size):=⟨zb (za hin).1 hbY (by omega),zd (za hin).2.1 hbY (by omega),zd (za hin).2.2.1 hbY (by omega),(za hin).2.2.2.1.trans (hbY.mono (by omega)),Nat.le_trans hse hbY.size⟩
   generalize wgT t (ts.take k) = T at HNX HY
   obtain ⟨tgr,tac,trf,ttr,tvo,tno,tli,tle⟩:=T
   have hne:w.heap.size ≠ wr.heap.size:=by omega
   have hne':wr.heap.size ≠ w.heap.size:=by omega
   have d0:(wr.alloc (Obj.cells #[.int .i64 e.kind,.int .i64 e.cmd.k,.int .i64 e.cmd.s,.int .i64 e.cmd.t,.int .i64 e.cmd.l,.int .i64 e.cmd.q,.int .i64 e.cmd.i,.float .f64 e.cmd.p,.string e.cmd.g,.int .i64 e.id,.int .i64 e.other,.int .i64 e.qty,.int .i64 e.price,.int .i64 e.reason] 80)).cell? ⟨w.heap.size,0,none⟩ = some (.int .i64 tgr):=(za HY).1 0 _ rfl
   have p0:(wr.alloc (Obj.cells #[.int .i64 e.kind,.int .i64 e.cmd.k,.int .i64 e.cmd.s,.int .i64 e.cmd.t,.int .i64 e.cmd.l,.int .i64 e.cmd.q,.int .i64 e.cmd.i,.float .f64 e.cmd.p,.string e.cmd.g,.int .i64 e.id,.int .i64 e.other,.int .i64 e.qty,.int .i64 e.price,.int .i64 e.reason] 80)).frozen? ⟨w.heap.size,0,none⟩ = false:=by have:=((za HY).2.1 0 (by omega)).2; rwa [Nat.zero_add] at this
   have d1:(wr.alloc (Obj.cells #[.int .i64 e.kind,.int .i64 e.cmd.k,.int .i64 e.cmd.s,.int .i64 e.cmd.t,.int .i64 e.cmd.l,.int .i64 e.cmd.q,.int .i64 e.cmd.i,.float .f64 e.cmd.p,.string e.cmd.g,.int .i64 e.id,.int .i64 e.other,.int .i64 e.qty,.int .i64 e.price,.int .i64 e.reason] 80)).cell? ⟨w.heap.size,1,none⟩ = some (.int .i64 tac):=(za HY).1 1 _ rfl
   have p1:(wr.alloc (Obj.cells #[.int .i64 e.kind,.int .i64 e.cmd.k,.int .i64 e.cmd.s,.int .i64 e.cmd.t,.int .i64 e.cmd.l,.int .i64 e.cmd.q,.int .i64 e.cmd.i,.float .f64 e.cmd.p,.string e.cmd.g,.int .i64 e.id,.int .i64 e.other,.int .i64 e.qty,.int .i64 e.price,.int .i64 e.reason] 80)).frozen? ⟨w.heap.size,1,none⟩ = false:=by have:=((za HY).2.1 1 (by omega)).2; rwa [Nat.zero_add] at this
   have d2:(wr.alloc (Obj.cells #[.int .i64 e.kind,.int .i64 e.cmd.k,.int .i64 e.cmd.s,.int .i64 e.cmd.t,.int .i64 e.cmd.l,.int .i64 e.cmd.q,.int .i64 e.cmd.i,.float .f64 e.cmd.p,.string e.cmd.g,.int .i64 e.id,.int .i64 e.other,.int .i64 e.qty,.int .i64 e.price,.int .i64 e.reason] 80)).cell? ⟨w.heap.size,2,none⟩ = some (.int .i64 trf):=(za HY).1 2 _ rfl
   have p2:(wr.alloc (Obj.cells #[.int .i64 e.kind,.int .i64 e.cmd.k,.int .i64 e.cmd.s,.int .i64 e.cmd.t,.int .i64 e.cmd.l,.int .i64 e.cmd.q,.int .i64 e.cmd.i,.float .f64 e.cmd.p,.string e.cmd.g,.int .i64 e.id,.int .i64 e.other,.int .i64 e.qty,.int .i64 e.price,.int .i64 e.reason] 80)).frozen? ⟨w.heap.size,2,none⟩ = false:=by have:=((za HY).2.1 2 (by omega)).2; rwa [Nat.zero_add] at this
   have d3:(wr.alloc (Obj.cells #[.int .i64 e.kind,.int .i64 e.cmd.k,.int .i64 e.cmd.s,.int .i64 e.cmd.t,.int .i64 e.cmd.l,.int .i64 e.cmd.q,.int .i64 e.cmd.i,.float .f64 e.cmd.p,.string e.cmd.g,.int .i64 e.id,.int .i64 e.other,.int .i64 e.qty,.int .i64 e.price,.int .i64 e.reason] 80)).cell? ⟨w.heap.size,3,none⟩ = some (.int .i64 ttr):=(za HY).1 3 _ rfl
   have p3:(wr.alloc (Obj.cells #[.int .i64 e.kind,.int .i64 e.cmd.k,.int .i64 e.cmd.s,.int .i64 e.cmd.t,.int .i64 e.cmd.l,.int .i64 e.cmd.q,.int .i64 e.cmd.i,.float .f64 e.cmd.p,.string e.cmd.g,.int .i64 e.id,.int .i64 e.other,.int .i64 e.qty,.int .i64 e.price,.int .i64 e.reason] 80)).frozen? ⟨w.heap.size,3,none⟩ = false:=by have:=((za HY).2.1 3 (by omega)).2; rwa [Nat.zero_add] at this
   have d4:(wr.alloc (Obj.cells #[.int .i64 e.kind,.int .i64 e.cmd.k,.int .i64 e.cmd.s,.int .i64 e.cmd.t,.int .i64 e.cmd.l,.int .i64 e.cmd.q,.int .i64 e.cmd.i,.float .f64 e.cmd.p,.string e.cmd.g,.int .i64 e.id,.int .i64 e.other,.int .i64 e.qty,.int .i64 e.price,.int .i64 e.reason] 80)).cell? ⟨w.heap.size,4,none⟩ = some (.int .i64 tvo):=(za HY).1 4 _ rfl
   have p4:(wr.alloc (Obj.cells #[.int .i64 e.kind,.int .i64 e.cmd.k,.int .i64 e.cmd.s,.int .i64 e.cmd.t,.int .i64 e.cmd.l,.int .i64 e.cmd.q,.int .i64 e.cmd.i,.float .f64 e.cmd.p,.string e.cmd.g,.int .i64 e.id,.int .i64 e.other,.int .i64 e.qty,.int .i64 e.price,.int .i64 e.reason] 80)).frozen? ⟨w.heap.size,4,none⟩ = false:=by have:=((za HY).2.1 4 (by omega)).2; rwa [Nat.zero_add] at this
   have d5:(wr.alloc (Obj.cells #[.int .i64 e.kind,.int .i64 e.cmd.k,.int .i64 e.cmd.s,.int .i64 e.cmd.t,.int .i64 e.cmd.l,.int .i64 e.cmd.q,.int .i64 e.cmd.i,.float .f64 e.cmd.p,.string e.cmd.g,.int .i64 e.id,.int .i64 e.other,.int .i64 e.qty,.int .i64 e.price,.int .i64 e.reason] 80)).cell? ⟨w.heap.size,5,none⟩ = some (.int .i64 tno):=(za HY).1 5 _ rfl
   have p5:(wr.alloc (Obj.cells #[.int .i64 e.kind,.int .i64 e.cmd.k,.int .i64 e.cmd.s,.int .i64 e.cmd.t,.int .i64 e.cmd.l,.int .i64 e.cmd.q,.int .i64 e.cmd.i,.float .f64 e.cmd.p,.string e.cmd.g,.int .i64 e.id,.int .i64 e.other,.int .i64 e.qty,.int .i64 e.price,.int .i64 e.reason] 80)).frozen? ⟨w.heap.size,5,none⟩ = false:=by have:=((za HY).2.1 5 (by omega)).2; rwa [Nat.zero_add] at this
   have d6:(wr.alloc (Obj.cells #[.int .i64 e.kind,.int .i64 e.cmd.k,.int .i64 e.cmd.s,.int .i64 e.cmd.t,.int .i64 e.cmd.l,.int .i64 e.cmd.q,.int .i64 e.cmd.i,.float .f64 e.cmd.p,.string e.cmd.g,.int .i64 e.id,.int .i64 e.other,.int .i64 e.qty,.int .i64 e.price,.int .i64 e.reason] 80)).cell? ⟨w.heap.size,6,none⟩ = some (.int .i64 tli):=(za HY).1 6 _ rfl
   have p6:(wr.alloc (Obj.cells #[.int .i64 e.kind,.int .i64 e.cmd.k,.int .i64 e.cmd.s,.int .i64 e.cmd.t,.int .i64 e.cmd.l,.int .i64 e.cmd.q,.int .i64 e.cmd.i,.float .f64 e.cmd.p,.string e.cmd.g,.int .i64 e.id,.int .i64 e.other,.int .i64 e.qty,.int .i64 e.price,.int .i64 e.reason] 80)).frozen? ⟨w.heap.size,6,none⟩ = false:=by have:=((za HY).2.1 6 (by omega)).2; rwa [Nat.zero_add] at this
   have d7:(wr.alloc (Obj.cells #[.int .i64 e.kind,.int .i64 e.cmd.k,.int .i64 e.cmd.s,.int .i64 e.cmd.t,.int .i64 e.cmd.l,.int .i64 e.cmd.q,.int .i64 e.cmd.i,.float .f64 e.cmd.p,.string e.cmd.g,.int .i64 e.id,.int .i64 e.other,.int .i64 e.qty,.int .i64 e.price,.int .i64 e.reason] 80)).cell? ⟨w.heap.size,7,none⟩ = some (.int .i64 tle):=(za HY).1 7 _ rfl
   have p7:(wr.alloc (Obj.cells #[.int .i64 e.kind,.int .i64 e.cmd.k,.int .i64 e.cmd.s,.int .i64 e.cmd.t,.int .i64 e.cmd.l,.int .i64 e.cmd.q,.int .i64 e.cmd.i,.float .f64 e.cmd.p,.string e.cmd.g,.int .i64 e.id,.int .i64 e.other,.int .i64 e.qty,.int .i64 e.price,.int .i64 e.reason] 80)).frozen? ⟨w.heap.size,7,none⟩ = false:=by have:=((za HY).2.1 7 (by omega)).2; rwa [Nat.zero_add] at this
   clear hke hcl hb hbY
   by_cases h1:e.kind = 1
   ·have b1:(e.kind == 1) = true:=by simpa using h1
    have HN:Hid (wgT t (ts.take (k + 1)) = ⟨tgr,wrap64 (tac + 1),trf,ttr,tvo,tno,tli,tle⟩):=(za HNX).trans (if_pos h1)
    clear h1
    go_wp2_with fail
    go_roundw
    case rel=>exact ⟨k + 1,by omega,by go_num,by rw [za HN]; exact keep8 (za HY) 1 (by simp [Tot.vs]) _⟩
    case measure=>simp [intOf]; omega
   have b1:(e.kind == 1) = false:=by rw [beq_eq_false_iff_ne]; exact h1
   by_cases h2:e.kind = 2
   ·have b2:(e.kind == 2) = true:=by simpa using h2
    have HN:Hid (wgT t (ts.take (k + 1)) = ⟨tgr,tac,wrap64 (trf + 1),ttr,tvo,tno,tli,tle⟩):=(za HNX).trans ((if_neg h1).trans (if_pos h2))
    clear h1 h2
    go_wp2_with fail
    go_roundw
    case rel=>exact ⟨k + 1,by omega,by go_num,by rw [za HN]; exact keep8 (za HY) 2 (by simp [Tot.vs]) _⟩
    case measure=>simp [intOf]; omega
   have b2:(e.kind == 2) = false:=by rw [beq_eq_false_iff_ne]; exact h2
   by_cases h3:e.kind = 3
   ·have b3:(e.kind == 3) = true:=by simpa using h3
    have HN:Hid (wgT t (ts.take (k + 1)) = ⟨tgr,tac,trf,wrap64 (ttr + 1),wrap64 (tvo + e.qty),wrap64 (tno + wrap64 (e.qty * e.price)),tli,tle⟩):=(za HNX).trans ((if_neg h1).trans ((if_neg h2).trans (if_pos h3)))
    clear h1 h2 h3
    go_wp2_with fail
    go_roundw
    case rel=>exact ⟨k + 1,by omega,by go_num,by rw [za HN]; exact keep8 (keep8 (keep8 (za HY) 3 (by simp [Tot.vs]) _) 4 (by simp [Tot.vs]) _) 5 (by simp [Tot.vs]) _⟩
    case measure=>simp [intOf]; omega
   ·have b3:(e.kind == 3) = false:=by rw [beq_eq_false_iff_ne]; exact h3
    have HN:Hid (wgT t (ts.take (k + 1)) = ⟨tgr,tac,trf,ttr,tvo,tno,tli,tle⟩):=(za HNX).trans ((if_neg h1).trans ((if_neg h2).trans (if_neg h3)))
    clear h1 h2 h3
    go_wp2_with fail
    go_roundw
    case rel=>exact ⟨k + 1,by omega,by go_num,by rw [za HN]; exact za HY⟩
    case measure=>simp [intOf]; omega
  ·have hlt':¬ (k:Int) < ts.length:=by omega
   rw [List.take_of_length_le (by omega)] at hin
   generalize hT:wgT t ts = T at hin
   have HTT:=hide hT
   have HY:=hide (za hin)
   clear hT
   obtain ⟨tgr,tac,trf,ttr,tvo,tno,tli,tle⟩:=T
   have c0:wr.cell? ⟨w.heap.size,0,none⟩ = some (.int .i64 tgr):=(za HY).1 0 _ rfl
   obtain ⟨y0,z0,q0⟩:=zc (za HY).2.2.1 (j:=0) (by omega)
   have c1:wr.cell? ⟨w.heap.size,1,none⟩ = some (.int .i64 tac):=(za HY).1 1 _ rfl
   obtain ⟨y1,z1,q1⟩:=zc (za HY).2.2.1 (j:=1) (by omega)
   have c2:wr.cell? ⟨w.heap.size,2,none⟩ = some (.int .i64 trf):=(za HY).1 2 _ rfl
   obtain ⟨y2,z2,q2⟩:=zc (za HY).2.2.1 (j:=2) (by omega)
   have c3:wr.cell? ⟨w.heap.size,3,none⟩ = some (.int .i64 ttr):=(za HY).1 3 _ rfl
   obtain ⟨y3,z3,q3⟩:=zc (za HY).2.2.1 (j:=3) (by omega)
   have c4:wr.cell? ⟨w.heap.size,4,none⟩ = some (.int .i64 tvo):=(za HY).1 4 _ rfl
   obtain ⟨y4,z4,q4⟩:=zc (za HY).2.2.1 (j:=4) (by omega)
   have c5:wr.cell? ⟨w.heap.size,5,none⟩ = some (.int .i64 tno):=(za HY).1 5 _ rfl
   obtain ⟨y5,z5,q5⟩:=zc (za HY).2.2.1 (j:=5) (by omega)
   have c6:wr.cell? ⟨w.heap.size,6,none⟩ = some (.int .i64 tli):=(za HY).1 6 _ rfl
   obtain ⟨y6,z6,q6⟩:=zc (za HY).2.2.1 (j:=6) (by omega)
   have c7:wr.cell? ⟨w.heap.size,7,none⟩ = some (.int .i64 tle):=(za HY).1 7 _ rfl
   obtain ⟨y7,z7,q7⟩:=zc (za HY).2.2.1 (j:=7) (by omega)
   have HR8:=hide (World.rangeAt_setCells_same wr (w.heap.size + 1) 0 [.int .i64 tgr,.int .i64 tac,.int .i64 trf,.int .i64 ttr,.int .i64 tvo,.int .i64 tno,.int .i64 tli,.int .i64 tle] (fun j hj=>(za HY).2.2.1 j hj))
   have HB8:=hide (zn (w.heap.size + 1) (by omega) [.int .i64 tgr,.int .i64 tac,.int .i64 trf,.int .i64 ttr,.int .i64 tvo,.int .i64 tno,.int .i64 tli,.int .i64 tle] 0 wr (za HY).2.2.2.1)
   clear hin
   go_wp2_with fail
   change bodyPost _ _ _ _ _ (wr.setCells (w.heap.size + 1) 0 [.int .i64 tgr,.int .i64 tac,.int .i64 trf,.int .i64 ttr,.int .i64 tvo,.int .i64 tno,.int .i64 tli,.int .i64 tle])
   generalize wr.setCells (w.heap.size + 1) 0 [.int .i64 tgr,.int .i64 tac,.int .i64 trf,.int .i64 ttr,.int .i64 tvo,.int .i64 tno,.int .i64 tli,.int .i64 tle] = WE at HR8 HB8 ⊢
   have d0:WE.cell? ⟨w.heap.size + 1,0,none⟩ = some (.int .i64 tgr):=za HR8 0 _ rfl
   have d1:WE.cell? ⟨w.heap.size + 1,1,none⟩ = some (.int .i64 tac):=za HR8 1 _ rfl
   have d2:WE.cell? ⟨w.heap.size + 1,2,none⟩ = some (.int .i64 trf):=za HR8 2 _ rfl
   have d3:WE.cell? ⟨w.heap.size + 1,3,none⟩ = some (.int .i64 ttr):=za HR8 3 _ rfl
   have d4:WE.cell? ⟨w.heap.size + 1,4,none⟩ = some (.int .i64 tvo):=za HR8 4 _ rfl
   have d5:WE.cell? ⟨w.heap.size + 1,5,none⟩ = some (.int .i64 tno):=za HR8 5 _ rfl
   have d6:WE.cell? ⟨w.heap.size + 1,6,none⟩ = some (.int .i64 tli):=za HR8 6 _ rfl
   have d7:WE.cell? ⟨w.heap.size + 1,7,none⟩ = some (.int .i64 tle):=za HR8 7 _ rfl
   try simp only [Exit.inBlock,Exit.then]
   refine bodyPost_ret (by simp [results,Tryz.results111,go_sem,d0,d1,d2,d3,d4,d5,d6,d7]; try rfl) rfl ?_
   exact ⟨by rw [za HTT],za HB8⟩
end Go.Proofs.YtdfihaabhichdaaGreat
namespace Go.Proofs.YtdfihaabhichdaaGreat
open Go.RowKit
set_option linter.unusedVariables false

abbrev GRow (W:World) (B:Nat) (v:Value) (gs:List Value):Prop:=W.ownsRow B 33 1 v gs.length gs
theorem infoEvS:(Tryz.prog.info? 33).map (fun i=>(i.zero,i.size,i.bytes)) = some (some (.slice none 0 0),1,24):=by kernel_rfl
theorem zab {W:World} {b n j:Nat} (h:W.there b 3 n) (hj:j < n):∃ u,W.cell? ⟨b,3 + j,none⟩ = some u∧W.frozen? ⟨b,3 + j,none⟩ = false:=by
 obtain ⟨h1,h2⟩:=h j hj
 obtain ⟨u,hu⟩:=Option.isSome_iff_exists.1 h1
 exact ⟨u,hu,h2⟩
theorem zbo (b:Nat):∀ (vs:List Value) (o:Nat) (W:World) (a:Addr),(W.setCells b o vs).frozen? a = W.frozen? a
 | [],_,_,_=>rfl
 | v :: r,o,W,a=>by rw [World.setCells,zbo b r (o + 1),World.frozen?_setCell]
structure RC (C:Nat→Value→Prop) (mb B:Nat) (gv vo:Value) (gs:List Value) (base:World) (x:List Bool) (f:Nat→Value) (W:World):Prop where
 c:∀ j,x[j]? = some true→C j (f j)
 b:x[11]? = some false→Below base.heap.size base W
 m10:x[10]? = some true→x[11]? = some false→∃ s,f 10 = .slice (some ⟨s,0,none⟩) 1 1∧W.cell? ⟨s,0,none⟩ = some vo
 m11:x[11]? = some true→x[15]? = some false→GRow W B (f 11) (gs ++ [vo])∧base.grownBy W gv.ownBlock
 m15:x[15]? = some true→∃ V,GRow V B (f 11) (gs ++ [vo])∧base.grownBy V gv.ownBlock∧W = V.setCell ⟨mb,0,none⟩ (f 11)
def RCA (F:(Nat→Value)→Act) (C:Nat→Value→Prop) (mb B:Nat) (gv vo:Value) (gs:List Value) (base:World) (x:List Bool) (A:Act) (W:World):Prop:=∃ f,A = F f∧RC C mb B gv vo gs base x f W
def C0G (mb:Nat) (gv vo:Value):Nat→Value→Prop
 | 0,v | 1,v | 2,v | 3,v | 4,v | 6,v | 7,v | 12,v | 13,v | 14,v=>v = .pointer (some ⟨mb,0,none⟩)
 | 5,v=>v = gv
 | 8,v=>v = .pointer (some ⟨mb,11,none⟩)
 | 9,v=>v = vo
 | _,_=>True
section
variable {C:Nat→Value→Prop} {mb B:Nat} {gv vo:Value} {gs:List Value} {base W W':World} {x:List Bool} {f:Nat→Value}
theorem zbG (h:RC C mb B gv vo gs base x f W) (i:Nat) (v:Value) (hv:C i v) (h10:i ≠ 10) (h11:i ≠ 11) (h15:i ≠ 15):RC C mb B gv vo gs base (x.set i true) (upd f i v) W:=by
 refine ⟨zE h.c hv,?_,?_,?_,?_⟩ <;> simp only [gq h10,gq h11,gq h15,zq f v h10.symm,zq f v h11.symm]
 ·exact h.b
 ·exact h.m10
 ·exact h.m11
 ·exact h.m15
theorem rc_10 (h:RC (C0G mb gv vo) mb B gv vo gs base x f W) (h11:x[11]? = some false) (h15:x[15]? = some false):RC (C0G mb gv vo) mb B gv vo gs base (x.set 10 true) (upd f 10 (.slice (some ⟨W.heap.size,0,none⟩) 1 1)) (W.alloc (Obj.cells #[vo] 33)):=by
 have hb:=h.b h11
 refine ⟨zE h.c trivial,fun _=>hb.alloc hb.size _,fun _ _=>⟨W.heap.size,zp _ _ _,by have:=zg W [vo] 33 0 _ rfl; exact this⟩,?_,?_⟩
 ·intro e; rw [gq (by decide),h11] at e; cases e
 ·intro e; rw [gq (by decide),h15] at e; cases e
theorem rc_11 (h:RC (C0G mb gv vo) mb B gv vo gs base x f W) (h11:x[11]? = some false) (h15:x[15]? = some false) {v':Value} (ho:GRow W' B v' (gs ++ [vo])) (hg:base.grownBy W' gv.ownBlock):RC (C0G mb gv vo) mb B gv vo gs base (x.set 11 true) (upd f 11 v') W':=by
 refine ⟨zE h.c trivial,?_,?_,fun _ _=>⟨by rw [zp]; exact ho,hg⟩,?_⟩
 ·intro e; rw [gqs h11] at e; cases e
 ·intro _ e; rw [gqs h11] at e; cases e
 ·intro e; rw [gq (by decide),h15] at e; cases e
theorem rc_15 (h:RC (C0G mb gv vo) mb B gv vo gs base x f W) (k11:x[11]? = some true) (h15:x[15]? = some false) (ho:GRow W B (f 11) (gs ++ [vo])) (hg:base.grownBy W gv.ownBlock):RC (C0G mb gv vo) mb B gv vo gs base (x.set 15 true) f (W.setCell ⟨mb,0,none⟩ (f 11)):=by
 refine ⟨fun j hj=>?_,?_,?_,?_,fun _=>⟨W,ho,hg,rfl⟩⟩
 ·by_cases hji:j = 15
  ·subst hji; trivial
  ·rw [gq (fun e=>hji e.symm)] at hj; exact h.c j hj
 ·intro e; rw [gq (by decide),k11] at e; cases e
 ·intro _ e; rw [gq (by decide),k11] at e; cases e
 ·intro _ e; rw [gqs h15] at e; cases e
end
structure RD (C:Nat→Value→Prop) (mb:Nat) (tv:List Value) (base:World) (x:List Bool) (f:Nat→Value) (W:World):Prop where
 c:∀ j,x[j]? = some true→C j (f j)
 b:x[14]? = some false→Below base.heap.size base W
 m:x[14]? = some true→∃ V,Below base.heap.size base V∧W = V.setCells mb 3 tv
def RDA (F:(Nat→Value)→Act) (C:Nat→Value→Prop) (mb:Nat) (tv:List Value) (base:World) (x:List Bool) (A:Act) (W:World):Prop:=∃ f,A = F f∧RD C mb tv base x f W
def C1G (mb:Nat) (tv wv vo:Value):Nat→Value→Prop
 | 0,v | 1,v | 2,v | 3,v | 6,v | 7,v | 11,v | 12,v=>v = .pointer (some ⟨mb,0,none⟩)
 | 4,v | 13,v=>v = .pointer (some ⟨mb,3,none⟩)
 | 5,v=>v = tv
 | 8,v=>v = .pointer (some ⟨mb,11,none⟩)
 | 9,v=>v = vo
 | 10,v=>v = wv
 | _,_=>True
section
variable {C:Nat→Value→Prop} {mb:Nat} {tv:List Value} {base W W':World} {x:List Bool} {f:Nat→Value}
theorem zbA (h:RD C mb tv base x f W) (i:Nat) (v:Value) (hv:C i v) (h14:i ≠ 14):RD C mb tv base (x.set i true) (upd f i v) W:=by
 refine ⟨zE h.c hv,?_,?_⟩ <;> rw [gq h14]
 ·exact h.b
 ·exact h.m
theorem rd_grow (h:RD C mb tv base x f W) (h14:x[14]? = some false) (hb:Below W.heap.size W W'):RD C mb tv base x f W' :=
 ⟨h.c,fun e=>(h.b e).trans (hb.mono (h.b e).size),fun e=>by rw [h14] at e; cases e⟩
theorem rd_14 {tw wv vo:Value} (h:RD (C1G mb tw wv vo) mb tv base x f W) (h14:x[14]? = some false):RD (C1G mb tw wv vo) mb tv base (x.set 14 true) f (W.setCells mb 3 tv):=by
 refine ⟨fun j hj=>?_,?_,fun _=>⟨W,h.b h14,rfl⟩⟩
 ·by_cases hji:j = 14
  ·subst hji; trivial
  ·rw [gq (fun e=>hji e.symm)] at hj; exact h.c j hj
 ·intro e; rw [gqs h14] at e; cases e
end
end Go.Proofs.YtdfihaabhichdaaGreat
namespace Go.Proofs.YtdfihaabhichdaaGreat
open Go.RowKit
set_option linter.unusedVariables false

theorem zak {B e sz n b:Nat} {v:Value} {xs:List Value} (hb:some b ≠ v.ownBlock):∀ (vs:List Value) (o:Nat) (W:World),W.ownsRow B e sz v n xs→(W.setCells b o vs).ownsRow B e sz v n xs
 | [],_,_,h=>h
 | u :: us,o,W,h=>by rw [World.setCells]; exact zak hb us (o + 1) _ (zt h hb o u)
theorem kind_setC (W:World) (b:Nat) {T:TypeId} {y:Nat × Nat}:∀ (vs:List Value) (o:Nat) {cur:Array Value},W.heap[b]? = some (.cells cur T y)→∃ cur',(W.setCells b o vs).heap[b]? = some (.cells cur' T y):=by
 intro vs
 induction vs generalizing W with
 | nil=>intro o cur h; exact ⟨cur,h⟩
 | cons u us ih =>
  intro o cur h
  rw [World.setCells]
  obtain ⟨c1,h1⟩:=zQ W b o u h
  exact ih _ (o + 1) h1
theorem set_os (W:World) (a:Addr) (u:Value):(W.setCell a u).os = W.os:=rfl
theorem set_tape (W:World) (a:Addr) (u:Value):(W.setCell a u).tape = W.tape:=rfl
theorem set_output (W:World) (a:Addr) (u:Value):(W.setCell a u).output = W.output:=rfl
theorem zcq (b:Nat):∀ (vs:List Value) (o:Nat) (W:World),(W.setCells b o vs).os = W.os
 | [],_,_=>rfl
 | u :: us,o,W=>by rw [World.setCells,zcq b us (o + 1)]; rfl
theorem zbM (b:Nat):∀ (vs:List Value) (o:Nat) (W:World),(W.setCells b o vs).tape = W.tape
 | [],_,_=>rfl
 | u :: us,o,W=>by rw [World.setCells,zbM b us (o + 1)]; rfl
theorem zbr (b:Nat):∀ (vs:List Value) (o:Nat) (W:World),(W.setCells b o vs).output = W.output
 | [],_,_=>rfl
 | u :: us,o,W=>by rw [World.setCells,zbr b us (o + 1)]; rfl
theorem zaw (b k:Nat) (hk:k ≠ b):∀ (vs:List Value) (o:Nat) (W:World),(W.setCells b o vs).heap[k]? = W.heap[k]?
 | [],_,_=>rfl
 | u :: us,o,W=>by rw [World.setCells,zaw b k hk us (o + 1)]; exact Below.heap_setCell _ _ _ _ hk
def Apt (Bo:Nat) (gs:List Value):Prop:=(∀ g ∈ gs,∀ b,g.ownBlock = some b→b < Bo)∧gs.Pairwise fun g g'=>∀ b b',g.ownBlock = some b→g'.ownBlock = some b'→b < b'
structure EnS (mb B Bo:Nat) (W:World) (gv:Value) (gs:List Value) (gl:List (List Ev)) (next:Int) (vq:Value) (l:List Od) (t:Tot) (vo:Value) (ts:List Ev):Prop where
 cells:W.rangeAt mb 0 [gv,.int .i64 next,vq,.int .i64 t.gr,.int .i64 t.ac,.int .i64 t.rf,.int .i64 t.tr,.int .i64 t.vo,.int .i64 t.no,.int .i64 t.li,.int .i64 t.le,vo]
 there:W.there mb 0 12
 grow:GRow W B gv gs
 glen:gs.length = gl.length
 geach:∀ (i:Nat) (g:Value) (es:List Ev),gs[i]? = some g→gl[i]? = some es→ERow W B g es
 glt:Apt Bo gs
 orow:ORow W B vq l
 erow:ERow W Bo vo ts
 box:∃ cur,W.heap[mb]? = some (.cells cur 75 (0,0))
 bo:B ≤ Bo
 le:Bo ≤ W.heap.size
section
variable {mb B Bo:Nat} {W w':World} {gv:Value} {gs:List Value} {gl:List (List Ev)} {next:Int} {vq:Value} {l:List Od} {t:Tot} {vo:Value} {ts:List Ev}
theorem EnS.lt (h:EnS mb B Bo W gv gs gl next vq l t vo ts):mb < W.heap.size:=by
 obtain ⟨cur,h⟩:=h.box
 exact (Array.getElem?_eq_some_iff.1 h).1
theorem EnS.apart (h:EnS mb B Bo W gv gs gl next vq l t vo ts) {g:Value} (hg:g ∈ gs):g.ownBlock = none ∨ g.ownBlock ≠ vo.ownBlock:=by
 cases e:g.ownBlock with
 | none=>exact .inl rfl
 | some b =>
  refine .inr fun e'=>?_
  have h1:=h.glt.1 g hg b e
  have h2:=(h.erow.lt b e'.symm).1
  omega
theorem ens_told (h:EnS mb B Bo W gv gs gl next vq l t vo ts) {vo':Value} {ts':List Ev} (hc:w'.cell? ⟨mb,11,none⟩ = some vo') (he:ERow w' Bo vo' ts') (ht:TookAt mb 10 vo.ownBlock W w'):EnS mb B Bo w' gv gs gl next vq l t vo' ts':=by
 have hcell:∀ j,j ≠ 11→w'.cell? ⟨mb,j,none⟩ = W.cell? ⟨mb,j,none⟩:=fun j hj=>ht.cell j (by omega)
 refine ⟨?_,fun j hj=>⟨?_,?_⟩,zal h.grow ht (zl h.grow h.box (by decide)) (zz h.grow h.erow (by decide)),h.glen,?_,h.glt,zal h.orow ht (zl h.orow h.box (by decide)) (zz h.orow h.erow (by decide)),he,?_,h.bo,Nat.le_trans h.le ht.size⟩
 ·intro j u hj
  by_cases h11:j = 11
  ·subst h11; cases hj; rw [Nat.zero_add]; exact hc
  ·rw [Nat.zero_add,hcell j h11]
   have:W.cell? ⟨mb,0 + j,none⟩ = some u:=h.cells j u (by
    match j,hj with
    | 0,hj | 1,hj | 2,hj | 3,hj | 4,hj | 5,hj | 6,hj | 7,hj | 8,hj | 9,hj | 10,hj=>exact hj
    | 11,hj=>exact absurd rfl h11
    | j + 12,hj=>simp at hj)
   rwa [Nat.zero_add] at this
 ·by_cases h11:j = 11
  ·subst h11; rw [Nat.zero_add,hc]; rfl
  ·rw [Nat.zero_add,hcell j h11]; have:=(h.there j hj).1; rwa [Nat.zero_add] at this
 ·rw [Nat.zero_add,ht.frozen]; have:=(h.there j hj).2; rwa [Nat.zero_add] at this
 ·intro i g es hg hes
  have hr:=h.geach i g es hg hes
  exact zal hr ht (zl hr h.box (by decide)) (h.apart (List.mem_of_getElem? hg))
 ·obtain ⟨cur,hb⟩:=h.box
  exact ht.kind _ _ _ hb
end
theorem zaT {mb B Bo:Nat} {gv:Value} {gs:List Value} {gl:List (List Ev)} {next:Int} {vq:Value} {l:List Od} {t:Tot} {vo:Value} {ts:List Ev} (e:Ev) (w:World) (h:EnS mb B Bo w gv gs gl next vq l t vo ts) (hn:ts.length ≤ 1000) :
  Calls Tryz.prog 81 #[.pointer (some ⟨mb,0,none⟩),.agg #[.int .i64 e.kind,.int .i64 e.cmd.k,.int .i64 e.cmd.s,.int .i64 e.cmd.t,.int .i64 e.cmd.l,.int .i64 e.cmd.q,.int .i64 e.cmd.i,.float .f64 e.cmd.p,.string e.cmd.g,.int .i64 e.id,.int .i64 e.other,.int .i64 e.qty,.int .i64 e.price,.int .i64 e.reason]] w fun r w'=>r = .returned (.tuple #[])∧(∃ vo',EnS mb B Bo w' gv gs gl next vq l t vo' (ts ++ [e]))∧KeptBut mb B w w'∧TookAt mb 10 vo.ownBlock w w':=by
 refine (tell_any mb Bo vo ts e w (h.cells 11 _ rfl) ?_ h.box h.erow h.le hn).mono ?_
 ·have:=(h.there 11 (by omega)).2; rwa [Nat.zero_add] at this
 ·rintro r w' ⟨vo',rfl,hc,he,ht⟩
  exact ⟨rfl,⟨vo',ens_told h hc he ht⟩,zbb ht (Nat.le_trans h.bo h.le) (fun g hg=>Nat.le_trans h.bo (h.erow.lt g hg).1),ht⟩
end Go.Proofs.YtdfihaabhichdaaGreat
