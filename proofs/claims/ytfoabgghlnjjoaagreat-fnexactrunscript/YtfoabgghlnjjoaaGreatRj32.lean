/-
  What rests at the end, counted, by the program; and a count's fault: proved by walking the functions.
-/
import Derived.Test.YtfoabgghlnjjoaaGreatRj29
import Derived.Test.YtfoabgghlnjjoaaGreatRj31
namespace Go.Proofs.YtfoabgghlnjjoaaGreat
open Go.RowKit
set_option linter.unusedVariables false

def cntO (t:Tot) (o:Od):Tot:={ t with li:=wrap64 (t.li + 1),le:=wrap64 (t.le + o.left) }
def wbT (t:Tot) (l:List Od):Tot:=l.foldl cntO t
theorem wb_step (t:Tot) (l:List Od) {k:Nat} {o:Od} (h:l[k]? = some o):wbT t (l.take (k + 1)) = cntO (wbT t (l.take k)) o:=by
 unfold wbT
 rw [List.take_add_one,h,List.foldl_append]; rfl
def cntF (n:Nat):Int:=if 4096 < n then 2 else if 200 < n then 7 else 0
theorem countFault_any (n:Nat) (hn:n ≤ 1073741824) (w:World):Calls Tryz.prog 46 #[.int .i64 n] w fun r w'=>r = .returned (.int .i64 (cntF n))∧w' = w:=by
 have HF:=hide (cntF.eq_1 n)
 generalize cntF n = F at HF ⊢
 by_cases h1:4096 < n
 ·have HF1:Hid (F = 2):=(za HF).trans (if_pos h1)
  have h1':(4096:Int) < n:=by omega
  clear HF
  go_enter Tryz.func46,Tryz.ntmps46
  go_wp2_with fail
  exact ⟨rfl,.int .i64 F,by rw [za HF1]; simp [results,Tryz.results46,go_sem],rfl,rfl⟩
 ·have h1':¬ (4096:Int) < n:=by omega
  by_cases h2:200 < n
  ·have HF1:Hid (F = 7):=(za HF).trans ((if_neg h1).trans (if_pos h2))
   have h2':(200:Int) < n:=by omega
   clear HF
   go_enter Tryz.func46,Tryz.ntmps46
   go_wp2_with fail
   exact ⟨rfl,.int .i64 F,by rw [za HF1]; simp [results,Tryz.results46,go_sem],rfl,rfl⟩
  ·have HF1:Hid (F = 0):=(za HF).trans ((if_neg h1).trans (if_neg h2))
   have h2':¬ (200:Int) < n:=by omega
   clear HF
   go_enter Tryz.func46,Tryz.ntmps46
   go_wp2_with fail
   exact ⟨rfl,.int .i64 F,by rw [za HF1]; simp [results,Tryz.results46,go_sem],rfl,rfl⟩
theorem keepB {w W:World} {S:Nat} {cs:List Value} (h:W.rangeAt S 0 cs∧W.there S 0 8∧W.there (S + 1 + 1) 0 8∧Below S w W∧S + 1 + 1 + 1 ≤ W.heap.size) (j:Nat) (hj:j < cs.length) (u:Value):(W.setCell ⟨S,j,none⟩ u).rangeAt S 0 (cs.set j u)∧(W.setCell ⟨S,j,none⟩ u).there S 0 8∧(W.setCell ⟨S,j,none⟩ u).there (S + 1 + 1) 0 8∧Below S w (W.setCell ⟨S,j,none⟩ u)∧S + 1 + 1 + 1 ≤ (W.setCell ⟨S,j,none⟩ u).heap.size :=
 ⟨zaS h.1 hj,zH h.2.1,zH h.2.2.1,h.2.2.2.1.setCell (p:=⟨S,j,none⟩) (Nat.le_refl _) _,by simp only [World.setCell,Array.size_modify]; exact h.2.2.2.2⟩
set_option maxRecDepth 100000 in
set_option maxHeartbeats 3200000 in
theorem withBook_any (t:Tot) (next:Int) (v:Value) (l:List Od) (w:World) (hr:RdR Od.vs 6 w v l) :
  Calls Tryz.prog 47 #[.agg #[.int .i64 t.gr,.int .i64 t.ac,.int .i64 t.rf,.int .i64 t.tr,.int .i64 t.vo,.int .i64 t.no,.int .i64 t.li,.int .i64 t.le],.agg #[.int .i64 next,v]] w fun r w'=>r = .returned (.agg #[.int .i64 (wbT t l).gr,.int .i64 (wbT t l).ac,.int .i64 (wbT t l).rf,.int .i64 (wbT t l).tr,.int .i64 (wbT t l).vo,.int .i64 (wbT t l).no,.int .i64 (wbT t l).li,.int .i64 (wbT t l).le])∧Below w.heap.size w w':=by
 obtain ⟨a,cap,rfl,hlen,hc⟩:=hr
 have hcell:∀ (k:Nat) (c:Od),l[k]? = some c→∃ b off,a = some ⟨b,off,none⟩∧b < w.heap.size∧w.rangeAt b (off + k * 6) c.vs:=by
  intro k c hk
  obtain ⟨b,off,h1,h2,h3⟩:=hc (by intro h; rw [h] at hk; simp at hk)
  exact ⟨b,off,h1,h2,h3 k c hk⟩
 have HC:=hide hcell
 clear hcell hc
 have hsf:=sfl
 have hs1:(w.alloc (Obj.cells #[.int .i64 t.gr,.int .i64 t.ac,.int .i64 t.rf,.int .i64 t.tr,.int .i64 t.vo,.int .i64 t.no,.int .i64 t.li,.int .i64 t.le] 48)).heap.size = w.heap.size + 1:=zf _ _
 have hs2:((w.alloc (Obj.cells #[.int .i64 t.gr,.int .i64 t.ac,.int .i64 t.rf,.int .i64 t.tr,.int .i64 t.vo,.int .i64 t.no,.int .i64 t.li,.int .i64 t.le] 48)).alloc (Obj.cells #[.int .i64 next,.slice a l.length cap] 32)).heap.size = w.heap.size + 1 + 1:=by rw [zf,hs1]
 have hs3:(((w.alloc (Obj.cells #[.int .i64 t.gr,.int .i64 t.ac,.int .i64 t.rf,.int .i64 t.tr,.int .i64 t.vo,.int .i64 t.no,.int .i64 t.li,.int .i64 t.le] 48)).alloc (Obj.cells #[.int .i64 next,.slice a l.length cap] 32)).alloc (Obj.cells #[.int .i64 0,.int .i64 0,.int .i64 0,.int .i64 0,.int .i64 0,.int .i64 0,.int .i64 0,.int .i64 0] 48)).heap.size = w.heap.size + 1 + 1 + 1:=by rw [zf,hs2]
 have r1:=zg w [.int .i64 t.gr,.int .i64 t.ac,.int .i64 t.rf,.int .i64 t.tr,.int .i64 t.vo,.int .i64 t.no,.int .i64 t.li,.int .i64 t.le] 48
 have t1:=zw w [.int .i64 t.gr,.int .i64 t.ac,.int .i64 t.rf,.int .i64 t.tr,.int .i64 t.vo,.int .i64 t.no,.int .i64 t.li,.int .i64 t.le] 48
 have r2:=zg (w.alloc (Obj.cells #[.int .i64 t.gr,.int .i64 t.ac,.int .i64 t.rf,.int .i64 t.tr,.int .i64 t.vo,.int .i64 t.no,.int .i64 t.li,.int .i64 t.le] 48)) [.int .i64 next,.slice a l.length cap] 32
 have t3:=zw ((w.alloc (Obj.cells #[.int .i64 t.gr,.int .i64 t.ac,.int .i64 t.rf,.int .i64 t.tr,.int .i64 t.vo,.int .i64 t.no,.int .i64 t.li,.int .i64 t.le] 48)).alloc (Obj.cells #[.int .i64 next,.slice a l.length cap] 32)) [.int .i64 0,.int .i64 0,.int .i64 0,.int .i64 0,.int .i64 0,.int .i64 0,.int .i64 0,.int .i64 0] 48
 rw [hs2] at t3
 rw [hs1] at r2
 have b1:Below w.heap.size w (w.alloc (Obj.cells #[.int .i64 t.gr,.int .i64 t.ac,.int .i64 t.rf,.int .i64 t.tr,.int .i64 t.vo,.int .i64 t.no,.int .i64 t.li,.int .i64 t.le] 48)):=(Below.refl _ _).alloc (Nat.le_refl _) _
 have b2:Below (w.heap.size + 1) (w.alloc (Obj.cells #[.int .i64 t.gr,.int .i64 t.ac,.int .i64 t.rf,.int .i64 t.tr,.int .i64 t.vo,.int .i64 t.no,.int .i64 t.li,.int .i64 t.le] 48)) ((w.alloc (Obj.cells #[.int .i64 t.gr,.int .i64 t.ac,.int .i64 t.rf,.int .i64 t.tr,.int .i64 t.vo,.int .i64 t.no,.int .i64 t.li,.int .i64 t.le] 48)).alloc (Obj.cells #[.int .i64 next,.slice a l.length cap] 32)):=(Below.refl _ _).alloc (by omega) _
 have b3:Below (w.heap.size + 1 + 1) ((w.alloc (Obj.cells #[.int .i64 t.gr,.int .i64 t.ac,.int .i64 t.rf,.int .i64 t.tr,.int .i64 t.vo,.int .i64 t.no,.int .i64 t.li,.int .i64 t.le] 48)).alloc (Obj.cells #[.int .i64 next,.slice a l.length cap] 32)) (((w.alloc (Obj.cells #[.int .i64 t.gr,.int .i64 t.ac,.int .i64 t.rf,.int .i64 t.tr,.int .i64 t.vo,.int .i64 t.no,.int .i64 t.li,.int .i64 t.le] 48)).alloc (Obj.cells #[.int .i64 next,.slice a l.length cap] 32)).alloc (Obj.cells #[.int .i64 0,.int .i64 0,.int .i64 0,.int .i64 0,.int .i64 0,.int .i64 0,.int .i64 0,.int .i64 0] 48)):=(Below.refl _ _).alloc (by omega) _
 have HX:Hid (_∧_∧_∧_∧_):=⟨zb (zb r1 b2 (by omega)) b3 (by omega),zd (zd t1 b2 (by omega)) b3 (by omega),t3,(b1.trans (b2.mono (by omega))).trans (b3.mono (by omega)),Nat.le_of_eq hs3.symm⟩
 have HBK:=hide (zb r2 b3 (by omega))
 clear hs1 hs2 hs3 r1 r2 t1 t3 b1 b2 b3
 go_enter Tryz.func47,Tryz.ntmps47
 refine wp_seq_k fun K hK=>?_
 have HK1:=hide hK
 clear hK
 go_wp2_with fail
 refine za HK1 _ _ ?_
 clear HK1
 generalize (((w.alloc (Obj.cells #[.int .i64 t.gr,.int .i64 t.ac,.int .i64 t.rf,.int .i64 t.tr,.int .i64 t.vo,.int .i64 t.no,.int .i64 t.li,.int .i64 t.le] 48)).alloc (Obj.cells #[.int .i64 next,.slice a l.length cap] 32)).alloc (Obj.cells #[.int .i64 0,.int .i64 0,.int .i64 0,.int .i64 0,.int .i64 0,.int .i64 0,.int .i64 0,.int .i64 0] 48)) = X at HX HBK ⊢
 have HX:Hid ((X).rangeAt w.heap.size 0 (wbT t (l.take 0)).vs∧(X).there w.heap.size 0 8∧(X).there (w.heap.size + 1 + 1) 0 8∧Below w.heap.size w (X)∧w.heap.size + 1 + 1 + 1 ≤ (X).heap.size):=za HX
 have c0:X.cell? ⟨w.heap.size + 1,0,none⟩ = some (.int .i64 next):=za HBK 0 _ rfl
 have c1:X.cell? ⟨w.heap.size + 1,1,none⟩ = some (.slice a l.length cap):=za HBK 1 _ rfl
 go_wp2_with fail
 clear c0 c1
 go_loopw [10] (fun iv wr=>∃ (k:Nat),k ≤ l.length∧iv = .int .i64 k∧Hid ((wr).rangeAt w.heap.size 0 (wbT t (l.take k)).vs∧(wr).there w.heap.size 0 8∧(wr).there (w.heap.size + 1 + 1) 0 8∧Below w.heap.size w (wr)∧w.heap.size + 1 + 1 + 1 ≤ (wr).heap.size)) (fun iv _=>l.length - (intOf iv).toNat)
 case atStart=>exact ⟨0,Nat.zero_le _,rfl,za HX⟩
 case round =>
  obtain ⟨k,hk,rfl,hin⟩:=hrel
  by_cases hlt:k < l.length
  ·obtain ⟨e,hke⟩:∃ e,l[k]? = some e:=⟨_,List.getElem?_eq_getElem hlt⟩
   obtain ⟨b,off,rfl,hb,hcl⟩:=za HC k e hke
   have HNX:=hide (wb_step t l hke)
   have hlt':(k:Int) < l.length:=by omega
   have hse:=(za hin).2.2.2.2
   obtain ⟨g0,g1,g2,g3,g4,g5⟩:=zC (zb hcl (za hin).2.2.2.1 hb)
   have hbY:Below wr.heap.size wr (wr.alloc (Obj.cells #[.int .i64 e.id,.int .i64 e.side,.int .i64 e.ticks,.int .i64 e.left,.int .i64 e.life,.string e.tag] 100)):=(Below.refl _ _).alloc (Nat.le_refl _) _
   have HY:Hid (((wr.alloc (Obj.cells #[.int .i64 e.id,.int .i64 e.side,.int .i64 e.ticks,.int .i64 e.left,.int .i64 e.life,.string e.tag] 100))).rangeAt w.heap.size 0 (wbT t (l.take k)).vs∧((wr.alloc (Obj.cells #[.int .i64 e.id,.int .i64 e.side,.int .i64 e.ticks,.int .i64 e.left,.int .i64 e.life,.string e.tag] 100))).there w.heap.size 0 8∧((wr.alloc (Obj.cells #[.int .i64 e.id,.int .i64 e.side,.int .i64 e.ticks,.int .i64 e.left,.int .i64 e.life,.string e.tag] 100))).there (w.heap.size + 1 + 1) 0 8∧Below w.heap.size w ((wr.alloc (Obj.cells #[.int .i64 e.id,.int .i64 e.side,.int .i64 e.ticks,.int .i64 e.left,.int .i64 e.life,.string e.tag] 100)))∧w.heap.size + 1 + 1 + 1 ≤ ((wr.alloc (Obj.cells #[.int .i64 e.id,.int .i64 e.side,.int .i64 e.ticks,.int .i64 e.left,.int .i64 e.life,.string e.tag] 100))).heap.size):=⟨zb (za hin).1 hbY (by omega),zd (za hin).2.1 hbY (by omega),zd (za hin).2.2.1 hbY (by omega),(za hin).2.2.2.1.trans (hbY.mono (by omega)),Nat.le_trans hse hbY.size⟩
   generalize wbT t (l.take k) = T at HNX HY
   obtain ⟨tgr,tac,trf,ttr,tvo,tno,tli,tle⟩:=T
   have hne:w.heap.size ≠ wr.heap.size:=by omega
   have hne':wr.heap.size ≠ w.heap.size:=by omega
   have d6:(wr.alloc (Obj.cells #[.int .i64 e.id,.int .i64 e.side,.int .i64 e.ticks,.int .i64 e.left,.int .i64 e.life,.string e.tag] 100)).cell? ⟨w.heap.size,6,none⟩ = some (.int .i64 tli):=(za HY).1 6 _ rfl
   have p6:(wr.alloc (Obj.cells #[.int .i64 e.id,.int .i64 e.side,.int .i64 e.ticks,.int .i64 e.left,.int .i64 e.life,.string e.tag] 100)).frozen? ⟨w.heap.size,6,none⟩ = false:=by have:=((za HY).2.1 6 (by omega)).2; rwa [Nat.zero_add] at this
   have d7:(wr.alloc (Obj.cells #[.int .i64 e.id,.int .i64 e.side,.int .i64 e.ticks,.int .i64 e.left,.int .i64 e.life,.string e.tag] 100)).cell? ⟨w.heap.size,7,none⟩ = some (.int .i64 tle):=(za HY).1 7 _ rfl
   have p7:(wr.alloc (Obj.cells #[.int .i64 e.id,.int .i64 e.side,.int .i64 e.ticks,.int .i64 e.left,.int .i64 e.life,.string e.tag] 100)).frozen? ⟨w.heap.size,7,none⟩ = false:=by have:=((za HY).2.1 7 (by omega)).2; rwa [Nat.zero_add] at this
   clear hke hcl hb hbY
   have HN:Hid (wbT t (l.take (k + 1)) = ⟨tgr,tac,trf,ttr,tvo,tno,wrap64 (tli + 1),wrap64 (tle + e.left)⟩):=za HNX
   clear HNX
   go_wp2_with fail
   go_roundw
   case rel=>exact ⟨k + 1,by omega,by go_num,by rw [za HN]; exact keepB (keepB (za HY) 6 (by simp [Tot.vs]) _) 7 (by simp [Tot.vs]) _⟩
   case measure=>simp [intOf]; omega
  ·have hlt':¬ (k:Int) < l.length:=by omega
   rw [List.take_of_length_le (by omega)] at hin
   generalize hT:wbT t l = T at hin
   have HTT:=hide hT
   have HY:=hide (za hin)
   clear hT
   obtain ⟨tgr,tac,trf,ttr,tvo,tno,tli,tle⟩:=T
   have c0:wr.cell? ⟨w.heap.size,0,none⟩ = some (.int .i64 tgr):=(za HY).1 0 _ rfl
   obtain ⟨y0,z0,q0⟩:=zc (za HY).2.2.1 (j:=0) (by omega)
   have c1:wr.cell? ⟨w.heap.size,1,none⟩ = some (.int .i64 tac):=(za HY).1 1 _ rfl
   obtain ⟨y1,z1,q1⟩:=zc (za HY).2.2.1 (j:=1) (by omega)
   have c2:wr.cell? ⟨w.heap.size,2,none⟩ = some (.int .i64 trf):=(za HY).1 2 _ rfl
   obtain ⟨y2,z2,q2⟩:=zc (za HY).2.2.1 (j:=2) (by omega)
   have c3:wr.cell? ⟨w.heap.size,3,none⟩ = some (.int .i64 ttr):=(za HY).1 3 _ rfl
   obtain ⟨y3,z3,q3⟩:=zc (za HY).2.2.1 (j:=3) (by omega)
   have c4:wr.cell? ⟨w.heap.size,4,none⟩ = some (.int .i64 tvo):=(za HY).1 4 _ rfl
   obtain ⟨y4,z4,q4⟩:=zc (za HY).2.2.1 (j:=4) (by omega)
   have c5:wr.cell? ⟨w.heap.size,5,none⟩ = some (.int .i64 tno):=(za HY).1 5 _ rfl
   obtain ⟨y5,z5,q5⟩:=zc (za HY).2.2.1 (j:=5) (by omega)
   have c6:wr.cell? ⟨w.heap.size,6,none⟩ = some (.int .i64 tli):=(za HY).1 6 _ rfl
   obtain ⟨y6,z6,q6⟩:=zc (za HY).2.2.1 (j:=6) (by omega)
   have c7:wr.cell? ⟨w.heap.size,7,none⟩ = some (.int .i64 tle):=(za HY).1 7 _ rfl
   obtain ⟨y7,z7,q7⟩:=zc (za HY).2.2.1 (j:=7) (by omega)
   have HR8:=hide (World.rangeAt_setCells_same wr (w.heap.size + 1 + 1) 0 [.int .i64 tgr,.int .i64 tac,.int .i64 trf,.int .i64 ttr,.int .i64 tvo,.int .i64 tno,.int .i64 tli,.int .i64 tle] (fun j hj=>(za HY).2.2.1 j hj))
   have HB8:=hide (zn (w.heap.size + 1 + 1) (by omega) [.int .i64 tgr,.int .i64 tac,.int .i64 trf,.int .i64 ttr,.int .i64 tvo,.int .i64 tno,.int .i64 tli,.int .i64 tle] 0 wr (za HY).2.2.2.1)
   clear hin
   go_wp2_with fail
   change bodyPost _ _ _ _ _ (wr.setCells (w.heap.size + 1 + 1) 0 [.int .i64 tgr,.int .i64 tac,.int .i64 trf,.int .i64 ttr,.int .i64 tvo,.int .i64 tno,.int .i64 tli,.int .i64 tle])
   generalize wr.setCells (w.heap.size + 1 + 1) 0 [.int .i64 tgr,.int .i64 tac,.int .i64 trf,.int .i64 ttr,.int .i64 tvo,.int .i64 tno,.int .i64 tli,.int .i64 tle] = WE at HR8 HB8 ⊢
   have d0:WE.cell? ⟨w.heap.size + 1 + 1,0,none⟩ = some (.int .i64 tgr):=za HR8 0 _ rfl
   have d1:WE.cell? ⟨w.heap.size + 1 + 1,1,none⟩ = some (.int .i64 tac):=za HR8 1 _ rfl
   have d2:WE.cell? ⟨w.heap.size + 1 + 1,2,none⟩ = some (.int .i64 trf):=za HR8 2 _ rfl
   have d3:WE.cell? ⟨w.heap.size + 1 + 1,3,none⟩ = some (.int .i64 ttr):=za HR8 3 _ rfl
   have d4:WE.cell? ⟨w.heap.size + 1 + 1,4,none⟩ = some (.int .i64 tvo):=za HR8 4 _ rfl
   have d5:WE.cell? ⟨w.heap.size + 1 + 1,5,none⟩ = some (.int .i64 tno):=za HR8 5 _ rfl
   have d6:WE.cell? ⟨w.heap.size + 1 + 1,6,none⟩ = some (.int .i64 tli):=za HR8 6 _ rfl
   have d7:WE.cell? ⟨w.heap.size + 1 + 1,7,none⟩ = some (.int .i64 tle):=za HR8 7 _ rfl
   try simp only [Exit.inBlock,Exit.then]
   refine bodyPost_ret (by simp [results,Tryz.results47,go_sem,d0,d1,d2,d3,d4,d5,d6,d7]; try rfl) rfl ?_
   exact ⟨by rw [za HTT],za HB8⟩
end Go.Proofs.YtfoabgghlnjjoaaGreat
namespace Go.Proofs.YtfoabgghlnjjoaaGreat
open Go.RowKit
set_option linter.unusedVariables false

structure RunSt where
  n:Int
  l:List Od
  g:List (List Ev)
  t:Tot
def tot0:Tot:=⟨0,0,0,0,0,0,0,0⟩
def rstep (s:RunSt) (c:Cm):RunSt:=⟨stN s.n s.l c,stL s.n s.l c,s.g ++ [stE s.n s.l c],wgT s.t (stE s.n s.l c)⟩
def runS (cs:List Cm):RunSt:=cs.foldl rstep ⟨1,[],[],tot0⟩
theorem run_step (cs:List Cm) {k:Nat} {c:Cm} (h:cs[k]? = some c):runS (cs.take (k + 1)) = rstep (runS (cs.take k)) c:=by
  unfold runS
  rw [List.take_add_one,h,List.foldl_append]; rfl
theorem run_take (cs:List Cm) (h:cs.length ≤ 200):∀ k,k ≤ cs.length→Inv (runS (cs.take k)).n (runS (cs.take k)).l∧1 ≤ (runS (cs.take k)).n∧(runS (cs.take k)).n ≤ 1 + k∧(runS (cs.take k)).g.length = k:=by
  intro k
  induction k with
  | zero=>intro _; exact ⟨inv_start,by simp [runS],by simp [runS],by simp [runS]⟩
  | succ k ih =>
    intro hk
    obtain ⟨h1,h2,h3,h4⟩:=ih (by omega)
    obtain ⟨c,hc⟩:∃ c,cs[k]? = some c:=⟨_,List.getElem?_eq_getElem (by omega)⟩
    rw [run_step cs hc]
    generalize runS (cs.take k) = s at h1 h2 h3 h4 ⊢
    obtain ⟨i1,i2,i3⟩:=inv_step c h1 (by omega) (by omega)
    refine ⟨i1,?_,?_,?_⟩
    · show 1 ≤ stN s.n s.l c; omega
    · show stN s.n s.l c ≤ 1 + ((k + 1:Nat):Int); omega
    · show (s.g ++ [stE s.n s.l c]).length = k + 1; simp [h4]
theorem run_inv (cs:List Cm) (h:cs.length ≤ 200):Inv (runS cs).n (runS cs).l∧1 ≤ (runS cs).n∧(runS cs).n ≤ 1 + cs.length∧(runS cs).g.length = cs.length:=by
  have:=run_take cs h cs.length (Nat.le_refl _)
  rwa [List.take_of_length_le (Nat.le_refl _)] at this
theorem cntF_zero {n:Nat}:cntF n = 0 ↔ n ≤ 200:=by
  unfold cntF
  split
  · constructor
    · intro h; cases h
    · intro h; omega
  · split
    · constructor
      · intro h; cases h
      · intro h; omega
    · exact ⟨fun _=>by omega,fun _=>rfl⟩
def rsF (cs:List Cm):RunSt:=if cs.length ≤ 200 then { runS cs with t:=wbT (runS cs).t (runS cs).l } else ⟨0,[],[],tot0⟩
end Go.Proofs.YtfoabgghlnjjoaaGreat
namespace Go.Proofs.YtfoabgghlnjjoaaGreat
open Go.RowKit
set_option linter.unusedVariables false

theorem box3 (w:World) (bl cl rl:List Value) (T1 T2 T3:TypeId):(((w.alloc (Obj.cells bl.toArray T1)).alloc (Obj.cells cl.toArray T2)).alloc (Obj.cells rl.toArray T3)).heap.size = w.heap.size + 3∧World.rangeAt (((w.alloc (Obj.cells bl.toArray T1)).alloc (Obj.cells cl.toArray T2)).alloc (Obj.cells rl.toArray T3)) w.heap.size 0 bl∧World.rangeAt (((w.alloc (Obj.cells bl.toArray T1)).alloc (Obj.cells cl.toArray T2)).alloc (Obj.cells rl.toArray T3)) (w.heap.size + 1) 0 cl∧World.rangeAt (((w.alloc (Obj.cells bl.toArray T1)).alloc (Obj.cells cl.toArray T2)).alloc (Obj.cells rl.toArray T3)) (w.heap.size + 1 + 1) 0 rl∧World.there (((w.alloc (Obj.cells bl.toArray T1)).alloc (Obj.cells cl.toArray T2)).alloc (Obj.cells rl.toArray T3)) (w.heap.size + 1 + 1) 0 rl.length∧Below w.heap.size w (((w.alloc (Obj.cells bl.toArray T1)).alloc (Obj.cells cl.toArray T2)).alloc (Obj.cells rl.toArray T3)):=by
 have hs1:(w.alloc (Obj.cells bl.toArray T1)).heap.size = w.heap.size + 1:=zf _ _
 have hs2:((w.alloc (Obj.cells bl.toArray T1)).alloc (Obj.cells cl.toArray T2)).heap.size = w.heap.size + 1 + 1:=by rw [zf,hs1]
 have r1:=zg w bl T1
 have r2:=zg (w.alloc (Obj.cells bl.toArray T1)) cl T2
 have r3:=zg ((w.alloc (Obj.cells bl.toArray T1)).alloc (Obj.cells cl.toArray T2)) rl T3
 have t3:=zw ((w.alloc (Obj.cells bl.toArray T1)).alloc (Obj.cells cl.toArray T2)) rl T3
 have b1:Below w.heap.size w (w.alloc (Obj.cells bl.toArray T1)):=(Below.refl _ _).alloc (Nat.le_refl _) _
 have b2:Below (w.alloc (Obj.cells bl.toArray T1)).heap.size (w.alloc (Obj.cells bl.toArray T1)) ((w.alloc (Obj.cells bl.toArray T1)).alloc (Obj.cells cl.toArray T2)):=(Below.refl _ _).alloc (Nat.le_refl _) _
 have b3:Below ((w.alloc (Obj.cells bl.toArray T1)).alloc (Obj.cells cl.toArray T2)).heap.size ((w.alloc (Obj.cells bl.toArray T1)).alloc (Obj.cells cl.toArray T2)) (((w.alloc (Obj.cells bl.toArray T1)).alloc (Obj.cells cl.toArray T2)).alloc (Obj.cells rl.toArray T3)):=(Below.refl _ _).alloc (Nat.le_refl _) _
 rw [hs1] at r2
 rw [hs2] at r3 t3
 refine ⟨by rw [zf,hs2],zb (zb r1 b2 (by omega)) b3 (by omega),zb r2 b3 (by omega),r3,t3,b1.trans ((b2.trans (b3.mono b2.size)).mono b1.size)⟩
theorem there_blk {W W':World} {b o n:Nat} (h:W.there b o n) (hb:W'.heap[b]? = W.heap[b]?):W'.there b o n:=fun j hj=>by
 rw [World.cell?_of_block (a:=⟨b,o + j,none⟩) hb,World.frozen?_of_block (a:=⟨b,o + j,none⟩) hb]; exact h j hj
end Go.Proofs.YtfoabgghlnjjoaaGreat
namespace Go.Proofs.YtfoabgghlnjjoaaGreat
open Go.RowKit
set_option linter.unusedVariables false

section
variable {C:Nat→Value→Prop} {mb:Nat} {tv:List Value} {base W W':World} {x:List Bool} {f:Nat→Value}
end
theorem below_keptR {mb B:Nat} {w Y W:World} (h1:Below w.heap.size w Y) (h2:KeptBut mb B Y W) (hB:w.heap.size ≤ B) (hm:w.heap.size ≤ mb):Below w.heap.size w W :=
 ⟨h2.os.trans h1.os,h2.tape.trans h1.tape,h2.output.trans h1.output,Nat.le_trans h1.size h2.size,fun k hk=>(h2.block k (by omega) (by omega)).trans (h1.block k hk)⟩
theorem row_end {e sz n mb R B C:Nat} {v:Value} {xs:List Value} {W V2:World} (h:W.ownsRow B e sz v n xs) (hm:some mb ≠ v.ownBlock) (hb:Below W.heap.size W V2) (hR:R < B) (hC:C ≤ B) (us vs:List Value) (o1 o2:Nat):((V2.setCells mb o1 us).setCells R o2 vs).ownsRow C e sz v n xs:=by
 have h1:V2.ownsRow B e sz v n xs:=World.ownsRow.kept (row:=none) h (zaa hb (Nat.le_refl _)) (by cases v.ownBlock <;> simp)
 have h2:=zak hm us o1 V2 h1
 have h3:=zak (b:=R) (fun e'=>by have:=(h.lt R e'.symm).1; omega) vs o2 _ h2
 refine ⟨h3.1,?_⟩
 rcases h3.2 with k1 | ⟨g',c',cur,k1,k2,k3⟩
 ·exact .inl k1
 ·exact .inr ⟨g',c',cur,k1,Nat.le_trans hC k2,k3⟩
structure GRs (W:World) (B:Nat) (gv:Value) (gl:List (List Ev)):Prop where
 ex:∃ gs:List Value,GRow W B gv gs∧gs.length = gl.length∧∀ (i:Nat) (g:Value) (es:List Ev),gs[i]? = some g→gl[i]? = some es→ERow W B g es
structure GRa (W:World) (B:Nat) (gv:Value) (gl:List (List Ev)):Prop where
 ex:∃ gs:List Value,GRow W B gv gs∧gs.length = gl.length∧(∀ (i:Nat) (g:Value) (es:List Ev),gs[i]? = some g→gl[i]? = some es→ERow W B g es)∧gs.Pairwise fun g g'=>∀ b b',g.ownBlock = some b→g'.ownBlock = some b'→b < b'
set_option maxRecDepth 100000 in
set_option maxHeartbeats 1600000 in
theorem implRunScript_any (v:Value) (cs:List Cm) (w:World) (hr:RdR Cm.vs 8 w v cs) (htg:∀ c ∈ cs,c.g.size ≤ maxLen) :
  Calls Tryz.prog 21 #[v] w fun e w'=>∃ gv vq,e = .returned (.tuple #[.agg #[gv,.int .i64 (rsF cs).n,vq,.int .i64 (rsF cs).t.gr,.int .i64 (rsF cs).t.ac,.int .i64 (rsF cs).t.rf,.int .i64 (rsF cs).t.tr,.int .i64 (rsF cs).t.vo,.int .i64 (rsF cs).t.no,.int .i64 (rsF cs).t.li,.int .i64 (rsF cs).t.le],.int .i64 (cntF cs.length)])∧GRa w' w.heap.size gv (rsF cs).g∧ORow w' w.heap.size vq (rsF cs).l∧Below w.heap.size w w':=by
 have HR:=hide hr
 have HTG:=hide htg
 obtain ⟨a,cap,rfl,hlen,hc⟩:=hr
 have hcell:∀ (k:Nat) (c:Cm),cs[k]? = some c→∃ b off,a = some ⟨b,off,none⟩∧b < w.heap.size∧w.rangeAt b (off + k * 8) c.vs:=by
  intro k c hk
  obtain ⟨b,off,h1,h2,h3⟩:=hc (by intro h; rw [h] at hk; simp at hk)
  exact ⟨b,off,h1,h2,h3 k c hk⟩
 have HC:=hide hcell
 clear hcell hc htg
 have hsf:=sfl
 have HCF:=hide (fun W=>countFault_any cs.length hlen W)
 have HCZ:=hide (@cntF_zero cs.length)
 have HF:Hid (rsF cs = if cs.length ≤ 200 then { runS cs with t:=wbT (runS cs).t (runS cs).l } else ⟨0,[],[],tot0⟩):=rfl
 generalize rsF cs = F at HF ⊢
 generalize cntF cs.length = CF at HCF HCZ ⊢
 have hbX:Below w.heap.size w (w.alloc (Obj.cells #[.slice none 0 0,.int .i64 0,.slice none 0 0,.int .i64 0,.int .i64 0,.int .i64 0,.int .i64 0,.int .i64 0,.int .i64 0,.int .i64 0,.int .i64 0] 50)):=(Below.refl _ _).alloc (Nat.le_refl _) _
 have HX:Hid ((w.alloc (Obj.cells #[.slice none 0 0,.int .i64 0,.slice none 0 0,.int .i64 0,.int .i64 0,.int .i64 0,.int .i64 0,.int .i64 0,.int .i64 0,.int .i64 0,.int .i64 0] 50)).heap.size = w.heap.size + 1∧World.there (w.alloc (Obj.cells #[.slice none 0 0,.int .i64 0,.slice none 0 0,.int .i64 0,.int .i64 0,.int .i64 0,.int .i64 0,.int .i64 0,.int .i64 0,.int .i64 0,.int .i64 0] 50)) w.heap.size 0 11):=⟨zf _ _,zw w [.slice none 0 0,.int .i64 0,.slice none 0 0,.int .i64 0,.int .i64 0,.int .i64 0,.int .i64 0,.int .i64 0,.int .i64 0,.int .i64 0,.int .i64 0] 50⟩
 have HBX:=hide hbX
 clear hbX
 go_enter Tryz.func21,Tryz.ntmps21
 refine wp_seq_k fun K hK=>?_
 have HK1:=hide hK
 clear hK
 go_wp2_with fail
 refine za HK1 _ _ ?_
 clear HK1
 generalize (w.alloc (Obj.cells #[.slice none 0 0,.int .i64 0,.slice none 0 0,.int .i64 0,.int .i64 0,.int .i64 0,.int .i64 0,.int .i64 0,.int .i64 0,.int .i64 0,.int .i64 0] 50)) = X at HX HBX ⊢
 refine wp_seq_k fun K hK=>?_
 have HK1:=hide hK
 clear hK
 go_wp2_with fail
 refine (za HCF X).mono ?_
 rintro e w3 ⟨rfl,hw3⟩
 rw [hw3]
 clear hw3 w3
 by_cases h200:cs.length ≤ 200
 rotate_left
 ·have hne:CF ≠ 0:=fun e=>h200 ((za HCZ).1 e)
  have hneb:(CF != 0) = true:=by simpa using hne
  have HF1:Hid (F = ⟨0,[],[],tot0⟩):=(za HF).trans (if_neg h200)
  obtain ⟨y0,z0,q0⟩:=zc (za HX).2 (j:=0) (by omega)
  obtain ⟨y1,z1,q1⟩:=zc (za HX).2 (j:=1) (by omega)
  obtain ⟨y2,z2,q2⟩:=zc (za HX).2 (j:=2) (by omega)
  obtain ⟨y3,z3,q3⟩:=zc (za HX).2 (j:=3) (by omega)
  obtain ⟨y4,z4,q4⟩:=zc (za HX).2 (j:=4) (by omega)
  obtain ⟨y5,z5,q5⟩:=zc (za HX).2 (j:=5) (by omega)
  obtain ⟨y6,z6,q6⟩:=zc (za HX).2 (j:=6) (by omega)
  obtain ⟨y7,z7,q7⟩:=zc (za HX).2 (j:=7) (by omega)
  obtain ⟨y8,z8,q8⟩:=zc (za HX).2 (j:=8) (by omega)
  obtain ⟨y9,z9,q9⟩:=zc (za HX).2 (j:=9) (by omega)
  obtain ⟨y10,z10,q10⟩:=zc (za HX).2 (j:=10) (by omega)
  have HR8:=hide (World.rangeAt_setCells_same X w.heap.size 0 [.slice none 0 0,.int .i64 0,.slice none 0 0,.int .i64 0,.int .i64 0,.int .i64 0,.int .i64 0,.int .i64 0,.int .i64 0,.int .i64 0,.int .i64 0] (fun j hj=>(za HX).2 j hj))
  have HB8:=hide (zn w.heap.size (Nat.le_refl _) [.slice none 0 0,.int .i64 0,.slice none 0 0,.int .i64 0,.int .i64 0,.int .i64 0,.int .i64 0,.int .i64 0,.int .i64 0,.int .i64 0,.int .i64 0] 0 X (za HBX))
  clear HF HCF HCZ HC
  go_wp2_with fail
  change bodyPost _ _ _ _ _ (X.setCells w.heap.size 0 [.slice none 0 0,.int .i64 0,.slice none 0 0,.int .i64 0,.int .i64 0,.int .i64 0,.int .i64 0,.int .i64 0,.int .i64 0,.int .i64 0,.int .i64 0])
  generalize X.setCells w.heap.size 0 [.slice none 0 0,.int .i64 0,.slice none 0 0,.int .i64 0,.int .i64 0,.int .i64 0,.int .i64 0,.int .i64 0,.int .i64 0,.int .i64 0,.int .i64 0] = WE at HR8 HB8 ⊢
  obtain rfl:=za HF1
  have d0:WE.cell? ⟨w.heap.size,0,none⟩ = some (.slice none 0 0):=za HR8 0 _ rfl
  have d1:WE.cell? ⟨w.heap.size,1,none⟩ = some (.int .i64 0):=za HR8 1 _ rfl
  have d2:WE.cell? ⟨w.heap.size,2,none⟩ = some (.slice none 0 0):=za HR8 2 _ rfl
  have d3:WE.cell? ⟨w.heap.size,3,none⟩ = some (.int .i64 0):=za HR8 3 _ rfl
  have d4:WE.cell? ⟨w.heap.size,4,none⟩ = some (.int .i64 0):=za HR8 4 _ rfl
  have d5:WE.cell? ⟨w.heap.size,5,none⟩ = some (.int .i64 0):=za HR8 5 _ rfl
  have d6:WE.cell? ⟨w.heap.size,6,none⟩ = some (.int .i64 0):=za HR8 6 _ rfl
  have d7:WE.cell? ⟨w.heap.size,7,none⟩ = some (.int .i64 0):=za HR8 7 _ rfl
  have d8:WE.cell? ⟨w.heap.size,8,none⟩ = some (.int .i64 0):=za HR8 8 _ rfl
  have d9:WE.cell? ⟨w.heap.size,9,none⟩ = some (.int .i64 0):=za HR8 9 _ rfl
  have d10:WE.cell? ⟨w.heap.size,10,none⟩ = some (.int .i64 0):=za HR8 10 _ rfl
  refine bodyPost_ret (by simp [results,Tryz.results21,go_sem,d0,d1,d2,d3,d4,d5,d6,d7,d8,d9,d10]; try rfl) rfl ?_
  exact ⟨_,_,rfl,⟨[],World.ownsRow_nil _ _ _ _,rfl,(fun i g es hg=>by simp at hg),List.Pairwise.nil⟩,World.ownsRow_nil _ _ _ _,za HB8⟩
 have hz:CF = 0:=(za HCZ).2 h200
 have hzb:(CF != 0) = false:=by rw [hz]; rfl
 have HF1:Hid (F = { runS cs with t:=wbT (runS cs).t (runS cs).l }):=(za HF).trans (if_pos h200)
 have HIV:=hide (run_take cs h200)
 subst hz
 clear HF HCF HCZ
 go_wp2_with fail
 refine za HK1 _ _ ?_
 clear HK1
 have hbY:Below X.heap.size X (X.alloc (Obj.cells #[.slice none 0 0,.int .i64 1,.slice none 0 0,.int .i64 0,.int .i64 0,.int .i64 0,.int .i64 0,.int .i64 0,.int .i64 0,.int .i64 0,.int .i64 0,.slice none 0 0] 75)):=(Below.refl _ _).alloc (Nat.le_refl _) _
 have HEN:Hid (EnS X.heap.size X.heap.size (X.alloc (Obj.cells #[.slice none 0 0,.int .i64 1,.slice none 0 0,.int .i64 0,.int .i64 0,.int .i64 0,.int .i64 0,.int .i64 0,.int .i64 0,.int .i64 0,.int .i64 0,.slice none 0 0] 75)).heap.size (X.alloc (Obj.cells #[.slice none 0 0,.int .i64 1,.slice none 0 0,.int .i64 0,.int .i64 0,.int .i64 0,.int .i64 0,.int .i64 0,.int .i64 0,.int .i64 0,.int .i64 0,.slice none 0 0] 75)) (.slice none 0 0) [] [] 1 (.slice none 0 0) [] tot0 (.slice none 0 0) []):=⟨zg X [.slice none 0 0,.int .i64 1,.slice none 0 0,.int .i64 0,.int .i64 0,.int .i64 0,.int .i64 0,.int .i64 0,.int .i64 0,.int .i64 0,.int .i64 0,.slice none 0 0] _,zw X [.slice none 0 0,.int .i64 1,.slice none 0 0,.int .i64 0,.int .i64 0,.int .i64 0,.int .i64 0,.int .i64 0,.int .i64 0,.int .i64 0,.int .i64 0,.slice none 0 0] _,World.ownsRow_nil _ _ _ _,rfl,fun i g es hg=>by simp at hg,⟨fun g hg=>by simp at hg,List.Pairwise.nil⟩,World.ownsRow_nil _ _ _ _,World.ownsRow_nil _ _ _ _,⟨_,heap_alloc_new X _⟩,hbY.size,Nat.le_refl _⟩
 have HBY:=hide hbY
 clear hbY
 refine wp_seq_k fun K hK=>?_
 have HK1:=hide hK
 clear hK
 go_wp2_with fail
 refine za HK1 _ _ ?_
 clear HK1
 generalize (X.alloc (Obj.cells #[.slice none 0 0,.int .i64 1,.slice none 0 0,.int .i64 0,.int .i64 0,.int .i64 0,.int .i64 0,.int .i64 0,.int .i64 0,.int .i64 0,.int .i64 0,.slice none 0 0] 75)) = Y at HEN HBY ⊢
 refine wp_seq_k fun K hK=>?_
 have HK1:=hide hK
 clear hK
 go_wp2_with fail
 go_loopw [20] (fun iv wr=>∃ (k:Nat),k ≤ cs.length∧iv = .int .i64 k∧Hid ((∃ Bo gv gs vq,EnS X.heap.size X.heap.size Bo wr gv gs (runS (cs.take k)).g (runS (cs.take k)).n vq (runS (cs.take k)).l (runS (cs.take k)).t (.slice none 0 0) [])∧KeptBut X.heap.size X.heap.size Y wr)) (fun iv _=>cs.length - (intOf iv).toNat)
 case atStart=>exact ⟨0,Nat.zero_le _,rfl,⟨_,_,_,_,za HEN⟩,⟨rfl,rfl,rfl,Nat.le_refl _,fun _ _ _=>rfl⟩⟩
 case round =>
  obtain ⟨k,hk,rfl,hin⟩:=hrel
  obtain ⟨⟨Bo,gv,gs,vq,hE⟩,hkb⟩:=za hin
  have HE:=hide hE
  have HKB:=hide hkb
  have HBW:=hide (below_keptR ((za HBX).trans ((za HBY).mono (za HBX).size)) hkb (za HBX).size (za HBX).size)
  clear hin hE hkb
  by_cases hlt:k < cs.length
  ·obtain ⟨e,hke⟩:∃ e,cs[k]? = some e:=⟨_,List.getElem?_eq_getElem hlt⟩
   obtain ⟨b,off,rfl,hb,hcl⟩:=za HC k e hke
   have HNX:=hide (run_step cs hke)
   have hlt':(k:Int) < cs.length:=by omega
   obtain ⟨g0,g1,g2,g3,g4,g5,g6,g7⟩:=zbw (zb hcl (za HBW) hb)
   obtain ⟨hi1,hi2,hi3,hi4⟩:=za HIV k hk
   have htge:=za HTG e (List.mem_of_getElem? hke)
   have hgl:=(za HE).glen
   have hbA:Below wr.heap.size wr (wr.alloc (Obj.cells #[.int .i64 e.k,.int .i64 e.s,.int .i64 e.t,.int .i64 e.l,.int .i64 e.q,.int .i64 e.i,.float .f64 e.p,.string e.g] 37)):=(Below.refl _ _).alloc (Nat.le_refl _) _
   have HDO:=hide (doE_any e _ (zR (za HE) hbA) hi1.good (by omega) (by omega) htge (by omega))
   have HKA:=hide (zk (za HKB) (zG (mb:=X.heap.size) (B:=X.heap.size) hbA (Nat.le_trans (za HE).bo (za HE).le)))
   unfold cmV at HDO
   clear hcl hb hbA hi1 hi2 hi3 hi4 htge hgl hke
   go_wp2_with fail
   refine (za HDO).mono ?_
   rintro r w5 ⟨rfl,⟨Bo5,gv5,gs5,vq5,hE5⟩,hk5⟩
   have HE5:=hide hE5
   have HK5:=hide (zk (za HKA) hk5)
   clear hE5 hk5 HDO g0 g1 g2 g3 g4 g5 g6 g7
   go_wp2_with fail
   go_roundw
   case rel=>exact ⟨k + 1,by omega,by go_num,⟨Bo5,gv5,gs5,vq5,by rw [za HNX]; exact za HE5⟩,za HK5⟩
   case measure=>simp [intOf]; omega
  ·have hlt':¬ (k:Int) < cs.length:=by omega
   rw [List.take_of_length_le (by omega)] at HE
   go_wp2_with fail
   refine za HK1 _ _ ?_
   clear HK1 hlt hlt'
   have hI:=run_inv cs h200
   generalize runS cs = s at HE HF1 hI
   obtain ⟨sn,sl,sg,st⟩:=s
   simp only at HE HF1 hI
   have hl20:=hI.1.good.len
   obtain ⟨av,cv,hv⟩:=zU (za HE).orow
   subst hv
   obtain ⟨ga,gc,hgv⟩:=zU (za HE).grow
   subst hgv
   have HRO:=hide (zP (za HE).orow (by omega))
   have hmX:=(za HE).lt
   have HWB:=hide (fun V hV=>withBook_any st sn (.slice av sl.length cv) sl V hV)
   generalize wbT st sl = T at HWB HF1
   have HT:Hid (wr.rangeAt X.heap.size 3 st.vs):=fun j u hj=>by
    have:=(za HE).cells (3 + j) u (by
     match j,hj with
     | 0,hj | 1,hj | 2,hj | 3,hj | 4,hj | 5,hj | 6,hj | 7,hj=>exact hj
     | j + 8,hj=>simp [Tot.vs] at hj)
    rwa [Nat.zero_add] at this
   have HTH:Hid (wr.there X.heap.size 3 8):=fun j hj=>by
    have:=(za HE).there (3 + j) (by omega)
    rwa [Nat.zero_add] at this
   have HM0:Hid (wr.cell? ⟨X.heap.size,0,none⟩ = some (.slice ga gs.length gc)):=(za HE).cells 0 _ rfl
   have HM1:Hid (wr.cell? ⟨X.heap.size,1,none⟩ = some (.int .i64 sn)):=(za HE).cells 1 _ rfl
   have HM2:Hid (wr.cell? ⟨X.heap.size,2,none⟩ = some (.slice av sl.length cv)):=(za HE).cells 2 _ rfl
   have HTR:Hid (wr.there w.heap.size 0 11):=there_blk (zd (za HX).2 (za HBY) (by have:=(za HX).1; omega)) ((za HKB).block _ (by have:=(za HX).1; omega) (by have:=(za HX).1; omega))
   obtain ⟨tgr,tac,trf,ttr,tvo,tno,tli,tle⟩:=T
   simp only at HWB
   have n1:=za HM1
   have n2:=za HM2
   have n3:wr.cell? ⟨X.heap.size,3,none⟩ = some (.int .i64 st.gr):=za HT 0 _ rfl
   have n4:wr.cell? ⟨X.heap.size,4,none⟩ = some (.int .i64 st.ac):=za HT 1 _ rfl
   have n5:wr.cell? ⟨X.heap.size,5,none⟩ = some (.int .i64 st.rf):=za HT 2 _ rfl
   have n6:wr.cell? ⟨X.heap.size,6,none⟩ = some (.int .i64 st.tr):=za HT 3 _ rfl
   have n7:wr.cell? ⟨X.heap.size,7,none⟩ = some (.int .i64 st.vo):=za HT 4 _ rfl
   have n8:wr.cell? ⟨X.heap.size,8,none⟩ = some (.int .i64 st.no):=za HT 5 _ rfl
   have n9:wr.cell? ⟨X.heap.size,9,none⟩ = some (.int .i64 st.li):=za HT 6 _ rfl
   have n10:wr.cell? ⟨X.heap.size,10,none⟩ = some (.int .i64 st.le):=za HT 7 _ rfl
   refine wp_seq_k fun K hK=>?_
   have HK1:=hide hK
   clear hK
   go_wp2_with fail
   refine (za HWB wr (za HRO)).mono ?_
   rintro e V2 ⟨rfl,hb2⟩
   clear n1 n2 n3 n4 n5 n6 n7 n8 n9 n10
   have hth:=zd (za HTH) hb2 hmX
   obtain ⟨y0,z0,q0⟩:=zab hth (j:=0) (by omega)
   obtain ⟨y1,z1,q1⟩:=zab hth (j:=1) (by omega)
   obtain ⟨y2,z2,q2⟩:=zab hth (j:=2) (by omega)
   obtain ⟨y3,z3,q3⟩:=zab hth (j:=3) (by omega)
   obtain ⟨y4,z4,q4⟩:=zab hth (j:=4) (by omega)
   obtain ⟨y5,z5,q5⟩:=zab hth (j:=5) (by omega)
   obtain ⟨y6,z6,q6⟩:=zab hth (j:=6) (by omega)
   obtain ⟨y7,z7,q7⟩:=zab hth (j:=7) (by omega)
   clear hth
   have HB0:=hide hb2
   clear hb2
   go_wp2_with fail
   refine za HK1 _ _ ?_
   clear HK1 z0 q0 z1 q1 z2 q2 z3 q3 z4 q4 z5 q5 z6 q6 z7 q7
   change Code.wp _ _ _ _ (V2.setCells X.heap.size 3 (Tot.mk tgr tac trf ttr tvo tno tli tle).vs)
   have hb2:=za HB0
   generalize eV':V2.setCells X.heap.size 3 (Tot.mk tgr tac trf ttr tvo tno tli tle).vs = V
   have eV:=eV'.symm
   clear eV'
   have HB2:=hide hb2
   have HEV:=hide eV
   have hV2:X.heap.size < V2.heap.size:=Nat.lt_of_lt_of_le hmX hb2.size
   have HC0:Hid (∀ j u,j < 3→wr.cell? ⟨X.heap.size,j,none⟩ = some u→V.cell? ⟨X.heap.size,j,none⟩ = some u):=fun j u hj hu=>by
    rw [eV]
    refine (World.cell?_setCells_out X.heap.size _ 3 V2 ⟨X.heap.size,j,none⟩ (fun _ _=>.inl hj)).trans ?_
    exact (hb2.cell (p:=⟨X.heap.size,j,none⟩) hmX).trans hu
   have HC3:Hid (V.rangeAt X.heap.size 3 (Tot.mk tgr tac trf ttr tvo tno tli tle).vs):=by
    rw [eV]
    exact World.rangeAt_setCells_same V2 X.heap.size 3 _ (fun j hj=>by
     have:=zd (za HTH) hb2 hmX j (by simpa [Tot.vs] using hj)
     exact this)
   have HTV:Hid (V.there w.heap.size 0 11):=by
    rw [eV]
    exact there_blk (zd (za HTR) hb2 (by have:=(za HX).1; omega)) (zaw X.heap.size w.heap.size (by have:=(za HX).1; omega) _ 3 V2)
   have hne:w.heap.size ≠ X.heap.size:=by have:=(za HX).1; omega
   have HBV:Hid (Below w.heap.size w V):=by
    rw [eV]
    exact zn X.heap.size (za HBX).size _ 3 V2 ((za HBW).trans (hb2.mono (za HBW).size))
   clear eV hb2
   have m0:=za HC0 0 _ (by omega) (za HM0)
   have m1:=za HC0 1 _ (by omega) (za HM1)
   have m2:=za HC0 2 _ (by omega) (za HM2)
   have m3:V.cell? ⟨X.heap.size,3,none⟩ = some (.int .i64 tgr):=za HC3 0 _ rfl
   have m4:V.cell? ⟨X.heap.size,4,none⟩ = some (.int .i64 tac):=za HC3 1 _ rfl
   have m5:V.cell? ⟨X.heap.size,5,none⟩ = some (.int .i64 trf):=za HC3 2 _ rfl
   have m6:V.cell? ⟨X.heap.size,6,none⟩ = some (.int .i64 ttr):=za HC3 3 _ rfl
   have m7:V.cell? ⟨X.heap.size,7,none⟩ = some (.int .i64 tvo):=za HC3 4 _ rfl
   have m8:V.cell? ⟨X.heap.size,8,none⟩ = some (.int .i64 tno):=za HC3 5 _ rfl
   have m9:V.cell? ⟨X.heap.size,9,none⟩ = some (.int .i64 tli):=za HC3 6 _ rfl
   have m10:V.cell? ⟨X.heap.size,10,none⟩ = some (.int .i64 tle):=za HC3 7 _ rfl
   obtain ⟨y0,z0,q0⟩:=zc (za HTV) (j:=0) (by omega)
   obtain ⟨y1,z1,q1⟩:=zc (za HTV) (j:=1) (by omega)
   obtain ⟨y2,z2,q2⟩:=zc (za HTV) (j:=2) (by omega)
   obtain ⟨y3,z3,q3⟩:=zc (za HTV) (j:=3) (by omega)
   obtain ⟨y4,z4,q4⟩:=zc (za HTV) (j:=4) (by omega)
   obtain ⟨y5,z5,q5⟩:=zc (za HTV) (j:=5) (by omega)
   obtain ⟨y6,z6,q6⟩:=zc (za HTV) (j:=6) (by omega)
   obtain ⟨y7,z7,q7⟩:=zc (za HTV) (j:=7) (by omega)
   obtain ⟨y8,z8,q8⟩:=zc (za HTV) (j:=8) (by omega)
   obtain ⟨y9,z9,q9⟩:=zc (za HTV) (j:=9) (by omega)
   obtain ⟨y10,z10,q10⟩:=zc (za HTV) (j:=10) (by omega)
   have HR8:=hide (World.rangeAt_setCells_same V w.heap.size 0 [.slice ga gs.length gc,.int .i64 sn,.slice av sl.length cv,.int .i64 tgr,.int .i64 tac,.int .i64 trf,.int .i64 ttr,.int .i64 tvo,.int .i64 tno,.int .i64 tli,.int .i64 tle] (fun j hj=>za HTV j hj))
   have HB8:=hide (zn w.heap.size (Nat.le_refl _) [.slice ga gs.length gc,.int .i64 sn,.slice av sl.length cv,.int .i64 tgr,.int .i64 tac,.int .i64 trf,.int .i64 ttr,.int .i64 tvo,.int .i64 tno,.int .i64 tli,.int .i64 tle] 0 V (za HBV))
   have HROW:Hid (∀ {e sz n:Nat} {v:Value} {xs:List Value},wr.ownsRow X.heap.size e sz v n xs→75 ≠ e→World.ownsRow (V.setCells w.heap.size 0 [.slice ga gs.length gc,.int .i64 sn,.slice av sl.length cv,.int .i64 tgr,.int .i64 tac,.int .i64 trf,.int .i64 ttr,.int .i64 tvo,.int .i64 tno,.int .i64 tli,.int .i64 tle]) w.heap.size e sz v n xs):=fun {e sz n v xs} h hne'=>by
    rw [za HEV]
    exact row_end h (zl h (za HE).box hne') (za HB2) (by have:=(za HX).1; omega) (za HBX).size _ _ _ _
   have HG:Hid (GRa (V.setCells w.heap.size 0 [.slice ga gs.length gc,.int .i64 sn,.slice av sl.length cv,.int .i64 tgr,.int .i64 tac,.int .i64 trf,.int .i64 ttr,.int .i64 tvo,.int .i64 tno,.int .i64 tli,.int .i64 tle]) w.heap.size (.slice ga gs.length gc) sg):=⟨gs,za HROW (za HE).grow (by decide),(za HE).glen,fun i g es hg hes=>za HROW ((za HE).geach i g es hg hes) (by decide),(za HE).glt.2⟩
   have HO:Hid (ORow (V.setCells w.heap.size 0 [.slice ga gs.length gc,.int .i64 sn,.slice av sl.length cv,.int .i64 tgr,.int .i64 tac,.int .i64 trf,.int .i64 ttr,.int .i64 tvo,.int .i64 tno,.int .i64 tli,.int .i64 tle]) w.heap.size (.slice av sl.length cv) sl):=za HROW (za HE).orow (by decide)
   clear HROW
   go_wp2_with fail
   change bodyPost _ _ _ _ _ (V.setCells w.heap.size 0 [.slice ga gs.length gc,.int .i64 sn,.slice av sl.length cv,.int .i64 tgr,.int .i64 tac,.int .i64 trf,.int .i64 ttr,.int .i64 tvo,.int .i64 tno,.int .i64 tli,.int .i64 tle])
   generalize V.setCells w.heap.size 0 [.slice ga gs.length gc,.int .i64 sn,.slice av sl.length cv,.int .i64 tgr,.int .i64 tac,.int .i64 trf,.int .i64 ttr,.int .i64 tvo,.int .i64 tno,.int .i64 tli,.int .i64 tle] = WE at HR8 HB8 HG HO ⊢
   obtain rfl:=za HF1
   have d0:WE.cell? ⟨w.heap.size,0,none⟩ = some (.slice ga gs.length gc):=za HR8 0 _ rfl
   have d1:WE.cell? ⟨w.heap.size,1,none⟩ = some (.int .i64 sn):=za HR8 1 _ rfl
   have d2:WE.cell? ⟨w.heap.size,2,none⟩ = some (.slice av sl.length cv):=za HR8 2 _ rfl
   have d3:WE.cell? ⟨w.heap.size,3,none⟩ = some (.int .i64 tgr):=za HR8 3 _ rfl
   have d4:WE.cell? ⟨w.heap.size,4,none⟩ = some (.int .i64 tac):=za HR8 4 _ rfl
   have d5:WE.cell? ⟨w.heap.size,5,none⟩ = some (.int .i64 trf):=za HR8 5 _ rfl
   have d6:WE.cell? ⟨w.heap.size,6,none⟩ = some (.int .i64 ttr):=za HR8 6 _ rfl
   have d7:WE.cell? ⟨w.heap.size,7,none⟩ = some (.int .i64 tvo):=za HR8 7 _ rfl
   have d8:WE.cell? ⟨w.heap.size,8,none⟩ = some (.int .i64 tno):=za HR8 8 _ rfl
   have d9:WE.cell? ⟨w.heap.size,9,none⟩ = some (.int .i64 tli):=za HR8 9 _ rfl
   have d10:WE.cell? ⟨w.heap.size,10,none⟩ = some (.int .i64 tle):=za HR8 10 _ rfl
   refine bodyPost_ret (by simp [results,Tryz.results21,go_sem,d0,d1,d2,d3,d4,d5,d6,d7,d8,d9,d10]; try rfl) rfl ?_
   exact ⟨_,_,rfl,za HG,za HO,za HB8⟩
end Go.Proofs.YtfoabgghlnjjoaaGreat
