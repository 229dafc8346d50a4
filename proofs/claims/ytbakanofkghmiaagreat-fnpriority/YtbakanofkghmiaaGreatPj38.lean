/-
  StepBook by the program: proved by walking the function.
-/
import Derived.Test.YtbakanofkghmiaaGreatPj36
set_option linter.unusedVariables false
set_option maxHeartbeats 6400000
set_option maxRecDepth 100000
namespace Go.Proofs.YtbakanofkghmiaaGreat
open Go.RowKit
def spN (next:Int) (l:List Od) (c:Cm):Int:=if okS next l = true then stN next l c else 0
def spL (next:Int) (l:List Od) (c:Cm):List Od:=if okS next l = true then stL next l c else []
def spE (next:Int) (l:List Od) (c:Cm):List Ev:=if okS next l = true then stE next l c else []
theorem box3 (w:World) (bl cl rl:List Value) (T1 T2 T3:TypeId):(((w.alloc (Obj.cells bl.toArray T1)).alloc (Obj.cells cl.toArray T2)).alloc (Obj.cells rl.toArray T3)).heap.size = w.heap.size + 3∧World.rangeAt (((w.alloc (Obj.cells bl.toArray T1)).alloc (Obj.cells cl.toArray T2)).alloc (Obj.cells rl.toArray T3)) w.heap.size 0 bl∧World.rangeAt (((w.alloc (Obj.cells bl.toArray T1)).alloc (Obj.cells cl.toArray T2)).alloc (Obj.cells rl.toArray T3)) (w.heap.size + 1) 0 cl∧World.rangeAt (((w.alloc (Obj.cells bl.toArray T1)).alloc (Obj.cells cl.toArray T2)).alloc (Obj.cells rl.toArray T3)) (w.heap.size + 1 + 1) 0 rl∧World.there (((w.alloc (Obj.cells bl.toArray T1)).alloc (Obj.cells cl.toArray T2)).alloc (Obj.cells rl.toArray T3)) (w.heap.size + 1 + 1) 0 rl.length∧yl w (((w.alloc (Obj.cells bl.toArray T1)).alloc (Obj.cells cl.toArray T2)).alloc (Obj.cells rl.toArray T3)):=by
 have xz:=ze w (Obj.cells bl.toArray T1)
 have xY:((w.alloc (Obj.cells bl.toArray T1)).alloc (Obj.cells cl.toArray T2)).heap.size = w.heap.size + 1 + 1:=by rw [ze,xz]
 have r1:=zg w bl T1
 have r2:=zg (w.alloc (Obj.cells bl.toArray T1)) cl T2
 have r3:=zg ((w.alloc (Obj.cells bl.toArray T1)).alloc (Obj.cells cl.toArray T2)) rl T3
 have t3:=zH ((w.alloc (Obj.cells bl.toArray T1)).alloc (Obj.cells cl.toArray T2)) rl T3
 have b1:=eD w (Obj.cells bl.toArray T1)
 have b2:Below (w.alloc (Obj.cells bl.toArray T1)).heap.size (w.alloc (Obj.cells bl.toArray T1)) ((w.alloc (Obj.cells bl.toArray T1)).alloc (Obj.cells cl.toArray T2)):=eD _ _
 have b3:Below ((w.alloc (Obj.cells bl.toArray T1)).alloc (Obj.cells cl.toArray T2)).heap.size ((w.alloc (Obj.cells bl.toArray T1)).alloc (Obj.cells cl.toArray T2)) (((w.alloc (Obj.cells bl.toArray T1)).alloc (Obj.cells cl.toArray T2)).alloc (Obj.cells rl.toArray T3)):=eD _ _
 rw [xz] at r2
 rw [xY] at r3 t3
 refine ⟨by rw [ze,xY],zb (zb r1 b2 (by omega)) b3 (by omega),zb r2 b3 (by omega),r3,t3,b1.trans ((eG b2 b3).mono b1.size)⟩
def CSB (N gb gc nL nE cv cg:Nat) (av ag:Option Addr) (tN:Int) (W:World):Nat→Value→Prop
 | 0,v=>v = I N 0
 | 1,v=>v = I N 1
 | 2,v=>v = .agg #[H tN,.slice av nL cv]
 | 3,v=>v = I N 0
 | 4,v=>v = I N 0
 | 5,v=>v = .slice (some (J gb 0)) 1 gc
 | 6,v=>v = I gb 0
 | 7,v=>v = .slice ag nE cg
 | 9,v=>v = .slice ag nE cg
 | 10,v=>v = H 0
 | _,_=>True
theorem csb_mono {R N gb gc nL nE cv cg:Nat} {av ag:Option Addr} {tN:Int}:∀ W W' j v,KB R W W'→CSB N gb gc nL nE cv cg av ag tN W j v→CSB N gb gc nL nE cv cg av ag tN W' j v:=fun _ _ _ _ _ h=>h
theorem there_blk {W W':World} {b o n:Nat} (h:W.there b o n) (hb:W'.heap[b]? = W.heap[b]?):W'.there b o n:=fun j L=>by
 rw [yN (a:=(J b (o + j))) hb,World.frozen?_of_block (a:=(J b (o + j))) hb]; exact h j L
theorem gRow_one {W:World} {B:Nat} {gv g:Value} (h:GRow W B gv [g]):∃ gb gc,gv = .slice (some (J gb 0)) 1 gc∧W.cell? (J gb 0) = some g∧B ≤ gb:=by
 rcases h.2 with ⟨_,h0⟩ | ⟨g',F,xp,rfl,hb,kn,h4,h5,h6,h7⟩
 ·cases h0
 ·refine ⟨g',F,rfl,?_,hb⟩
  rw [cell_of_row W g' 0 xp _ (0,0) kn]
  have:xp.toList[0]? = some g:=by
   have:=congrArg (fun l=>l[0]?) h7
   simpa using this
  simpa using this
theorem implStepBook_any (next:Int) (vb:Value) (l:List Od) (c:Cm) (w:World) (hr:RdR Od.vs 6 w vb l) (hs:SlOk vb) (hgt:∀ o ∈ l,o.tag.size ≤ maxLen) (ht:c.g.size ≤ maxLen) :
  Calls Tryz.prog 15 #[.agg #[H next,vb],cmV c] w fun e w'=>∃ vq vg,e = yk (.tuple #[.agg #[H (spN next l c),vq],vg,H (reaC next l)])∧ORow w' w.heap.size vq (spL next l c)∧ERow w' w.heap.size vg (spE next l c)∧yl w w':=by
 have HR:=Q hr
 have uW:=Q hs
 have HGT:=Q hgt
 have qU:=Q ht
 obtain ⟨a,F,rfl,xD,hc⟩:=hr
 clear hc hs hgt ht xD
 have kY:=Q (fun (xV:okS next l = true) (N B Bo:Nat) (vq:Value) (W:World) (h:EnS N B Bo W (.slice none 0 0) [] [] next vq l ⟨0,0,0,0,0,0,0,0⟩ (.slice none 0 0) [])=>doE_any c W h (cP xV).1 (cP xV).2.1 (cP xV).2.2 (M qU) (by simp))
 have uB:Hid (spN next l c = if okS next l = true then stN next l c else 0):=rfl
 have qT:Hid (spL next l c = if okS next l = true then stL next l c else []):=rfl
 have uA:Hid (spE next l c = if okS next l = true then stE next l c else []):=rfl
 have uk:Hid (reaC next l = if okS next l = true then 0 else 1):=rfl
 obtain ⟨kk,s,ty,li,X,ii,pr,O⟩:=c
 generalize spN next l ⟨kk,s,ty,li,X,ii,pr,O⟩ = sN at uB ⊢
 generalize spL next l ⟨kk,s,ty,li,X,ii,pr,O⟩ = sL at qT ⊢
 generalize spE next l ⟨kk,s,ty,li,X,ii,pr,O⟩ = sE at uA ⊢
 generalize reaC next l = sC at uk ⊢
 generalize stN next l ⟨kk,s,ty,li,X,ii,pr,O⟩ = tN at uB kY
 generalize stL next l ⟨kk,s,ty,li,X,ii,pr,O⟩ = tL at qT kY
 generalize stE next l ⟨kk,s,ty,li,X,ii,pr,O⟩ = tE at uA kY
 unfold cmV at kY ⊢
 simp only at kY qU ⊢
 have HB:=Q (box3 w [H next,.slice a l.length F] (yu kk s ty li X ii pr O) [H 0,.slice none 0 0] 28 43 28)
 go_enter Tryz.func15,Tryz.ntmps15
 refine eH fun h2 xu=>?_
 go_wp2_with fail
 refine M xu _ _ ?_
 clear xu
 change Hid ((((w.alloc (E #[H next,.slice a l.length F] 28)).alloc (E (yu kk s ty li X ii pr O).toArray 43)).alloc (E #[H 0,.slice none 0 0] 28)).heap.size = w.heap.size + 3∧World.rangeAt (((w.alloc (E #[H next,.slice a l.length F] 28)).alloc (E (yu kk s ty li X ii pr O).toArray 43)).alloc (E #[H 0,.slice none 0 0] 28)) w.heap.size 0 [H next,.slice a l.length F]∧World.rangeAt (((w.alloc (E #[H next,.slice a l.length F] 28)).alloc (E (yu kk s ty li X ii pr O).toArray 43)).alloc (E #[H 0,.slice none 0 0] 28)) (w.heap.size + 1) 0 (yu kk s ty li X ii pr O)∧World.rangeAt (((w.alloc (E #[H next,.slice a l.length F] 28)).alloc (E (yu kk s ty li X ii pr O).toArray 43)).alloc (E #[H 0,.slice none 0 0] 28)) (w.heap.size + 1 + 1) 0 [H 0,.slice none 0 0]∧World.there (((w.alloc (E #[H next,.slice a l.length F] 28)).alloc (E (yu kk s ty li X ii pr O).toArray 43)).alloc (E #[H 0,.slice none 0 0] 28)) (w.heap.size + 1 + 1) 0 2∧yl w (((w.alloc (E #[H next,.slice a l.length F] 28)).alloc (E (yu kk s ty li X ii pr O).toArray 43)).alloc (E #[H 0,.slice none 0 0] 28))) at HB
 generalize (((w.alloc (E #[H next,.slice a l.length F] 28)).alloc (E (yu kk s ty li X ii pr O).toArray 43)).alloc (E #[H 0,.slice none 0 0] 28)) = qt at HB ⊢
 have xE:Hid (∀ W:World,yl qt W→W.cell? (yn w 0) = some (H next)∧W.cell? (yn w 1) = some (.slice a l.length F)∧W.cell? (J (w.heap.size + 1) 0) = some (H kk)∧W.cell? (J (w.heap.size + 1) 1) = some (H s)∧W.cell? (J (w.heap.size + 1) 2) = some (H ty)∧W.cell? (J (w.heap.size + 1) 3) = some (H li)∧W.cell? (J (w.heap.size + 1) 4) = some (H X)∧W.cell? (J (w.heap.size + 1) 5) = some (H ii)∧W.cell? (J (w.heap.size + 1) 6) = some (yh pr)∧W.cell? (J (w.heap.size + 1) 7) = some (yi O)):=fun W hW =>
  have p:=zb (M HB).2.1 hW (by have:=(M HB).1; omega)
  have q:=zb (M HB).2.2.1 hW (by have:=(M HB).1; omega)
  ⟨p 0 _ rfl,p 1 _ rfl,q 0 _ rfl,q 1 _ rfl,q 2 _ rfl,q 3 _ rfl,q 4 _ rfl,q 5 _ rfl,q 6 _ rfl,q 7 _ rfl⟩
 obtain ⟨z0,z1,y0,y1,y2,y3,y4,y5,y6,y7⟩:=M xE qt (Below.refl _ _)
 refine eH fun h2 xu=>?_
 go_wp2_with fail
 refine (eA next _ l qt (zh (M HR) (M HB).2.2.2.2.2 tg) (M HGT)).mono ?_
 rw [okI_eq]
 rintro e w3 ⟨rfl,uf⟩
 have xM:=Q uf
 clear uf z0 z1 y0 y1 y2 y3 y4 y5 y6 y7
 have uU:w.heap.size + 1 + 1 < qt.heap.size:=by have:=(M HB).1; omega
 cases xV:okS next l
 ·have HK:Hid (sN = 0∧sL = []∧sE = []∧sC = 1):=⟨by rw [M uB,xV]; rfl,by rw [M qT,xV]; rfl,by rw [M uA,xV]; rfl,by rw [M uk,xV]; rfl⟩
  have qE:=Q (zf (M HB).2.2.2.2.1 (M xM) uU)
  have oI:=Q (zb (M HB).2.2.2.1 (M xM) uU)
  have x0:w3.cell? (J (w.heap.size + 1 + 1) 0) = some (H 0):=M oI 0 _ rfl
  have x1:w3.cell? (J (w.heap.size + 1 + 1) 1) = some (.slice none 0 0):=M oI 1 _ rfl
  have q0:w3.frozen? (J (w.heap.size + 1 + 1) 0) = false:=(M qE 0 (by omega)).2
  have q1:w3.frozen? (J (w.heap.size + 1 + 1) 1) = false:=(M qE 1 (by omega)).2
  clear xV uB qT uA uk kY
  have HW:Hid (yl w ((w3.setCell (J (w.heap.size + 1 + 1) 0) (H 0)).setCell (J (w.heap.size + 1 + 1) 1) (.slice none 0 0))):=(((M HB).2.2.2.2.2.trans ((M xM).mono (M HB).2.2.2.2.2.size)).setCell (p:=(J (w.heap.size + 1 + 1) 0)) (show w.heap.size ≤ w.heap.size + 1 + 1 by omega) _).setCell (p:=(J (w.heap.size + 1 + 1) 1)) (show w.heap.size ≤ w.heap.size + 1 + 1 by omega) _
  go_wp2_with fail
  have d0:((w3.setCell (J (w.heap.size + 1 + 1) 0) (H 0)).setCell (J (w.heap.size + 1 + 1) 1) (.slice none 0 0)).cell? (J (w.heap.size + 1 + 1) 0) = some (H 0):=(yI _ _ _ _ (zI (by decide))).trans (yJ _ _ _ x0)
  have d1:((w3.setCell (J (w.heap.size + 1 + 1) 0) (H 0)).setCell (J (w.heap.size + 1 + 1) 1) (.slice none 0 0)).cell? (J (w.heap.size + 1 + 1) 1) = some (.slice none 0 0):=yJ _ _ _ ((yI _ _ _ _ (zI (by decide))).trans x1)
  refine bodyPost_ret (by simp [results,Tryz.results15,go_sem,d0,d1]; try rfl) rfl ?_
  obtain ⟨rfl,rfl,rfl,rfl⟩:=M HK
  exact ⟨_,_,rfl,World.ownsRow_nil _ _ _ _,World.ownsRow_nil _ _ _ _,M HW⟩
 have HK:Hid (sN = tN∧sL = tL∧sE = tE∧sC = 0):=⟨by rw [M uB,if_pos xV],by rw [M qT,if_pos xV],by rw [M uA,if_pos xV],by rw [M uk,if_pos xV]⟩
 have HDO1:=Q (M kY xV)
 have oy:=(cP xV).1.len
 clear xV uB qT uA uk kY
 obtain ⟨z0,z1,y0,y1,y2,y3,y4,y5,y6,y7⟩:=M xE w3 (M xM)
 go_wp2_with fail
 refine M xu _ _ ?_
 clear xu
 refine eH fun h2 xu=>?_
 go_wp2_with fail
 refine (copyBook_any next _ l w3 (zh (M HR) ((M HB).2.2.2.2.2.trans ((M xM).mono (M HB).2.2.2.2.2.size)) tg) (M uW) (by omega)).mono ?_
 rintro e w4 ⟨v4,rfl,ka,xy⟩
 obtain ⟨a4,c4,rfl⟩:=zO ka
 have xS:=Q (eG (M xM) xy)
 have oQ:=eD w4 (E #[.slice none 0 0,H next,.slice a4 l.length c4,H 0,H 0,H 0,H 0,H 0,H 0,H 0,H 0,.slice none 0 0] 71)
 have qQ:Hid (EnS w4.heap.size w3.heap.size (w4.alloc (E #[.slice none 0 0,H next,.slice a4 l.length c4,H 0,H 0,H 0,H 0,H 0,H 0,H 0,H 0,.slice none 0 0] 71)).heap.size (w4.alloc (E #[.slice none 0 0,H next,.slice a4 l.length c4,H 0,H 0,H 0,H 0,H 0,H 0,H 0,H 0,.slice none 0 0] 71)) (.slice none 0 0) [] [] next (.slice a4 l.length c4) l ⟨0,0,0,0,0,0,0,0⟩ (.slice none 0 0) []):=⟨zg w4 [.slice none 0 0,H next,.slice a4 l.length c4,H 0,H 0,H 0,H 0,H 0,H 0,H 0,H 0,.slice none 0 0] _,zH w4 [.slice none 0 0,H next,.slice a4 l.length c4,H 0,H 0,H 0,H 0,H 0,H 0,H 0,H 0,.slice none 0 0] _,World.ownsRow_nil _ _ _ _,rfl,fun i g es hg=>by simp at hg,⟨fun g hg=>by simp at hg,List.Pairwise.nil⟩,zj ka oQ,World.ownsRow_nil _ _ _ _,⟨_,heap_alloc_new w4 _⟩,yK xy.size oQ.size,Nat.le_refl _⟩
 have uS:=Q (eG (M xS) oQ)
 have hmb:w3.heap.size ≤ w4.heap.size:=xy.size
 clear oQ xy ka z0 z1 y0 y1 y2 y3 y4 y5 y6 y7
 go_wp2_with fail
 refine M xu _ _ ?_
 clear xu
 generalize (w4.alloc (E #[.slice none 0 0,H next,.slice a4 l.length c4,H 0,H 0,H 0,H 0,H 0,H 0,H 0,H 0,.slice none 0 0] 71)) = ho at qQ uS ⊢
 obtain ⟨z0,z1,y0,y1,y2,y3,y4,y5,y6,y7⟩:=M xE ho (M uS)
 go_wp2_with fail
 refine (M HDO1 _ _ _ _ ho (M qQ)).mono ?_
 rintro e w5 ⟨rfl,⟨Bo5,gv5,gs5,vq5,qq⟩,ox⟩
 clear z0 z1 y0 y1 y2 y3 y4 y5 y6 y7
 obtain ⟨hg5l,kn⟩:gs5.length = 1∧True:=⟨by have:=qq.glen; simpa using this,trivial⟩
 obtain ⟨g0,rfl⟩:=List.length_eq_one_iff.1 hg5l
 obtain ⟨av,cv,hv⟩:=zO qq.orow
 subst hv
 obtain ⟨ag,cg,hgv⟩:=zO (qq.geach 0 g0 tE rfl rfl)
 subst hgv
 obtain ⟨gb,gc,hgv5,hgb⟩:=gRow_one qq.grow
 subst hgv5
 have vN:=Q qq
 have hR5:w.heap.size + 1 + 1 < ho.heap.size:=yG uU (M uS).size
 have hR3:w.heap.size + 1 + 1 < w3.heap.size:=yG uU (M xM).size
 have hTY:=zf (M HB).2.2.2.2.1 (M uS) uU
 have vw:Hid (w5.there (w.heap.size + 1 + 1) 0 2):=there_blk hTY (ox.block _ hR3 (by omega))
 have xJ:Hid (yl w w5):=by
  have z:=(M HB).2.2.2.2.2.trans ((M uS).mono (M HB).2.2.2.2.2.size)
  have h3:w.heap.size ≤ w3.heap.size:=by omega
  exact ⟨ox.os.trans z.os,ox.tape.trans z.tape,ox.output.trans z.output,yK z.size ox.size,fun k hk=>(ox.block k (by omega) (by omega)).trans (z.block k hk)⟩
 have hR55:w.heap.size + 1 + 1 < w5.heap.size:=yG hR5 ox.size
 have hmbR:w4.heap.size ≠ w.heap.size + 1 + 1:=by omega
 have hgbR:gb ≠ w.heap.size + 1 + 1:=by omega
 have hwB:w.heap.size ≤ w3.heap.size:=by omega
 have HM0:Hid (w5.cell? (yn w4 0) = some (.slice (some (J gb 0)) 1 gc)):=qq.cells 0 _ rfl
 have qa:Hid (w5.cell? (yn w4 1) = some (H tN)):=qq.cells 1 _ rfl
 have vv:Hid (w5.cell? (yn w4 2) = some (.slice av tL.length cv)):=qq.cells 2 _ rfl
 have HG0:Hid (w5.cell? (J gb 0) = some (.slice ag tE.length cg)):=hgb.1
 clear qq ox hTY hgb hg5l
 go_wp2_with fail
 refine zi (RXA (fun f=>{ tmps:=#[.agg #[H next,.slice a l.length F],.agg (yu kk s ty li X ii pr O).toArray,ym w 0,I (w.heap.size + 1) 0,I (w.heap.size + 1 + 1) 0,f 9,f 10,ym w4 0,.agg #[H next,.slice a l.length F],.bool true,.bool false,Z,.agg #[H next,.slice a l.length F],.agg #[H next,.slice a4 l.length c4],.agg #[.slice none 0 0,H next,.slice a4 l.length c4,H 0,H 0,H 0,H 0,H 0,H 0,H 0,H 0],.agg #[.slice none 0 0,H next,.slice a4 l.length c4,H 0,H 0,H 0,H 0,H 0,H 0,H 0,H 0,.slice none 0 0],.agg (yu kk s ty li X ii pr O).toArray,.tuple #[],f 0,f 1,f 2,f 3,f 4,f 5,f 6,f 7],defers:=[] }) (CSB w4.heap.size gb gc tL.length tE.length cv cg av ag tN) (w.heap.size + 1 + 1) 2 8 (fun _=>[H tN,.slice av tL.length cv]) w5) (by kernel_rfl) ?_ ?_ ?_
 ·exact ⟨fun j=>if j = 9 then .slice none 0 0 else if j = 10 then H 0 else Z,rfl,rx_start hR55 (M vw)⟩
 rotate_left
 ·rintro x hR V i op ⟨f,rfl,A⟩ xk hx Y xq D
  have xv:=Q A
  have xj:∀ (p:Addr) u,w5.cell? p = some u→p.block ≠ w.heap.size + 1 + 1→V.cell? p = some u:=fun p u hu hp=>kb_cell A.k hu hp
  match i,Y with
  | 0,Y | 3,Y =>
   obtain rfl:=hD Y
   clear D A xk xj
   rw [if_pos (by rfl)];unfold Oper.wp;go_simp
   exact ⟨upd f _ (ym w4 0),by simp [upd],zX (M xv) _ _ (by decide) (fun _=>rfl) rfl⟩
  | 1,Y =>
   obtain rfl:=hD Y
   have g0:f 0 = ym w4 0:=A.c 0 (yc D 0 rfl)
   clear D A xk xj
   rw [if_pos (by rfl)];unfold Oper.wp;go_simp
   exact ⟨upd f 1 (ym w4 1),by simp [upd,g0],zX (M xv) 1 _ (by decide) (fun _=>rfl) rfl⟩
  | 2,Y =>
   obtain rfl:=hD Y
   have g1:f 1 = ym w4 1:=A.c 1 (yc D 1 rfl)
   have z1:=xj (yn w4 1) _ (M qa) hmbR
   have z2:=xj (yn w4 2) _ (M vv) hmbR
   clear D A xk xj
   rw [if_pos (by rfl)];unfold Oper.wp;go_simp
   exact ⟨upd f 2 (.agg #[H tN,.slice av tL.length cv]),by simp [upd,g1],zX (M xv) 2 _ (by decide) (fun _=>rfl) rfl⟩
  | 4,Y =>
   obtain rfl:=hD Y
   have g3:f 3 = ym w4 0:=A.c 3 (yc D 3 rfl)
   clear D A xk xj
   rw [if_pos (by rfl)];unfold Oper.wp;go_simp
   exact ⟨upd f 4 (ym w4 0),by simp [upd,g3],zX (M xv) 4 _ (by decide) (fun _=>rfl) rfl⟩
  | 5,Y =>
   obtain rfl:=hD Y
   have g4:f 4 = ym w4 0:=A.c 4 (yc D 4 rfl)
   have z0:=xj (yn w4 0) _ (M HM0) hmbR
   clear D A xk xj
   rw [if_pos (by rfl)];unfold Oper.wp;go_simp
   exact ⟨upd f 5 (.slice (some (J gb 0)) 1 gc),by simp [upd,g4],zX (M xv) 5 _ (by decide) (fun _=>rfl) rfl⟩
  | 6,Y =>
   obtain rfl:=hD Y
   have g5:f 5 = .slice (some (J gb 0)) 1 gc:=A.c 5 (yc D 5 rfl)
   clear D A xk xj
   rw [if_pos (by rfl)];unfold Oper.wp;go_simp
   exact ⟨upd f 6 (I gb 0),by simp [upd,g5],zX (M xv) 6 _ (by decide) (fun _=>rfl) rfl⟩
  | 7,Y =>
   obtain rfl:=hD Y
   have g6:f 6 = I gb 0:=A.c 6 (yc D 6 rfl)
   have z0:=xj (J gb 0) _ (M HG0) hgbR
   clear D A xk xj
   rw [if_pos (by rfl)];unfold Oper.wp;go_simp
   exact ⟨upd f 7 (.slice ag tE.length cg),by simp [upd,g6],zX (M xv) 7 _ (by decide) (fun _=>rfl) rfl⟩
  | 8,Y =>
   obtain rfl:=hD Y
   have g2:f 2 = .agg #[H tN,.slice av tL.length cv]:=A.c 2 (yc D 2 rfl)
   obtain ⟨y0,z0,q0⟩:=zd A.t (j:=0) (by omega)
   obtain ⟨y1,z1,q1⟩:=zd A.t (j:=1) (by omega)
   clear D A xk xj
   rw [if_pos (by rfl)];unfold Oper.wp;go_simp
   exact ⟨f,by simp [g2],rx_store csb_mono (M xv) xq rfl (fun _ _=>trivial)⟩
  | 9,Y =>
   obtain rfl:=hD Y
   have g7:f 7 = .slice ag tE.length cg:=A.c 7 (yc D 7 rfl)
   clear D A xk xj
   rw [if_pos (by rfl)];unfold Oper.wp;go_simp
   exact ⟨upd f 9 (.slice ag tE.length cg),by simp [upd,g7],zX (M xv) 9 _ (by decide) (fun _=>rfl) rfl⟩
  | 10,Y =>
   obtain rfl:=hD Y
   clear D A xk xj
   rw [if_pos (by rfl)];unfold Oper.wp;go_simp
   exact ⟨upd f 10 (H 0),by simp [upd],zX (M xv) 10 _ (by decide) (fun _=>rfl) rfl⟩
  | n + 11,Y=>simp at Y
 ·rintro x hR V ⟨f,rfl,A⟩ hx xK
  have xm:=zL xK hx (by kernel_rfl)
  have e9:f 9 = .slice ag tE.length cg:=A.c 9 (xm 9 (by simp))
  have jz:f 10 = H 0:=A.c 10 (xm 10 (by simp))
  have uY:=A.r (xm 8 (by simp))
  have HO:Hid (ORow V w.heap.size (.slice av tL.length cv) tL∧ERow V w.heap.size (.slice ag tE.length cg) tE):=⟨zA (cw (M vN).orow A.k hR3) hwB,zA (cw ((M vN).geach 0 _ tE rfl rfl) A.k hR3) hwB⟩
  have xo:Hid (yl w V):=⟨A.k.os.trans (M xJ).os,A.k.tape.trans (M xJ).tape,A.k.output.trans (M xJ).output,yK (M xJ).size A.k.size,fun k hk=>(A.k.block k (yG hk (M xJ).size) (by omega)).trans ((M xJ).block k hk)⟩
  simp only [e9,jz]
  generalize f 0 = v0,f 1 = v1,f 2 = v2,f 3 = v3,f 4 = v4,f 5 = v5,f 6 = v6,f 7 = v7
  have d0:V.cell? (J (w.heap.size + 1 + 1) 0) = some (H tN):=uY 0 _ rfl
  have d1:V.cell? (J (w.heap.size + 1 + 1) 1) = some (.slice av tL.length cv):=uY 1 _ rfl
  clear A xm xK hx e9 jz uY
  go_wp2_with fail
  refine bodyPost_ret (by simp [results,Tryz.results15,go_sem,d0,d1]; try rfl) rfl ?_
  obtain ⟨rfl,rfl,rfl,rfl⟩:=M HK
  exact ⟨_,_,rfl,(M HO).1,(M HO).2,M xo⟩
theorem nex_stop {l:List Od} {t:Od} (h:t.left = 0):NexS l t (-1):=.inl ⟨rfl,.inl h⟩
theorem nex_none {l:List Od} {t:Od} (h:aD l (othS t.side) = none):NexS l t (-1):=.inl ⟨rfl,.inr (.inl h)⟩
theorem nex_no {l:List Od} {t o:Od} (h:aD l (othS t.side) = some o) (hc:bw t.side t.ticks o = false):NexS l t (-1):=.inl ⟨rfl,.inr (.inr ⟨o,h,hc⟩)⟩
theorem l04Next_any (v:Value) (l:List Od) (t:Od) (w:World) (hr:RdR Od.vs 6 w v l) (hri:aH l) (hn:l.length ≤ 1000) (uu:t.side = 1 ∨ t.side = 2) :
  Calls Tryz.prog 135 #[v,.agg (yt t.id t.side t.ticks t.left t.life t.tag).toArray] w fun e w'=>∃ k:Int,e = .returned (H k)∧NexS l t k∧yl w w':=by
 have HR:=Q hr
 obtain ⟨a,F,rfl,xD,hc⟩:=hr
 have xn:∀ (k:Nat) (c:Od),l[k]? = some c→∃ b off,a = some (J b off)∧b < w.heap.size∧w.rangeAt b (off + k * 6) c.vs:=by
  intro k c hk
  obtain ⟨b,off,z,K,h3⟩:=hc (by intro h; rw [h] at hk; simp at hk)
  exact ⟨b,off,z,K,h3 k c hk⟩
 have HC:=Q xn
 have HRI:=Q hri
 have HOT:=Q (oth_of uu)
 have xz:1 ≤ t.side:=by omega
 have xY:t.side ≤ 2:=by omega
 have xT:Hid (yl w (w.alloc (E (yt t.id t.side t.ticks t.left t.life t.tag).toArray 49))):=eD _ _
 have HX:Hid (World.rangeAt (w.alloc (E (yt t.id t.side t.ticks t.left t.life t.tag).toArray 49)) w.heap.size 0 t.vs∧w.heap.size < (w.alloc (E (yt t.id t.side t.ticks t.left t.life t.tag).toArray 49)).heap.size):=⟨zg w t.vs _,by rw [ze]; omega⟩
 clear xn hc hri uu
 go_enter Tryz.func135,Tryz.ntmps135
 go_wp2_with fail
 generalize (w.alloc (E (yt t.id t.side t.ticks t.left t.life t.tag).toArray 49)) = W1 at xT HX ⊢
 refine (en _ l _ W1 (zh (M HR) (M xT) tg) (M HRI) hn).mono ?_
 rintro e w2 ⟨k,rfl,hf,qj⟩
 have HF:=Q (front_pre (M HRI) hf)
 have xC:=Q ((M xT).trans ((gr_below' qj (fun g hg=>by cases hg) tg).mono (M xT).size))
 have pY:=Q (zm (M HX).1 qj (M HX).2 (by simp))
 have pB:w.heap.size < w2.heap.size:=yG (M HX).2 qj.size
 have HC2:Hid (∀ (k:Nat) (c:Od),l[k]? = some c→∃ b off,a = some (J b off)∧b < w2.heap.size∧w2.rangeAt b (off + k * 6) c.vs):=fun k c hk=>by
  obtain ⟨b,off,z,K,h3⟩:=M HC k c hk
  exact ⟨b,off,z,by omega,zb h3 (M xC) K⟩
 obtain ⟨t0,t1,t2,t3,t4,t5⟩:=zx (M pY)
 clear hf qj xz xY
 by_cases h0:t.left = 0
 ·have HN:=Q (nex_stop (l:=l) h0)
  have b0:(t.left == 0) = true:=by simpa using h0
  clear h0
  go_wp2_with fail
  go_quiet (fail)
  go_wp2_with fail
  go_ret
  exact ⟨_,rfl,M HN,cH (M xC) _⟩
 have b0:(t.left == 0) = false:=by simpa using h0
 rcases M HF with ⟨rfl,qS⟩ | ⟨i,o,rfl,hi,kT,hfo⟩
 ·have HN:=Q (nex_none (l:=l) (t:=t) (by rw [← M HOT]; exact qS))
  clear qS h0
  go_wp2_with fail
  go_quiet (fail)
  go_wp2_with fail
  go_ret
  exact ⟨_,rfl,M HN,cH (M xC) _⟩
 have HFO:Hid (aD l (othS t.side) = some o):=by rw [← M HOT]; exact hfo
 have HIO:=Q kT
 obtain ⟨b,off,rfl,hb,xk⟩:=M HC2 i o kT
 have HL0:=Q h0
 have qv:Hid (∀ w',w2.grownBy w' none→w'.rangeAt w.heap.size 0 t.vs∧w'.rangeAt b (off + i * 6) o.vs):=fun w' h'=>⟨zm (M pY) h' pB (by simp),zm xk h' hb (by simp)⟩
 have hlti:(i:Int) < l.length:=by omega
 have uv:¬ ((i:Int) < 0):=by omega
 have hi0':decide ((i:Int) < 0) = false:=by simp
 clear hfo kT xk h0 HF HOT
 go_wp2_with fail
 refine di (W:=w2) (by kernel_rfl) (by kernel_rfl) (yO _ _) ?_
 iterate 16 (
  refine aN (v:=?_) ?_ ?_ ?_
  rotate_left
  ·rfl
  ·intro w' uc
   obtain ⟨c0,c1,c2,c3,c4,c5⟩:=zx (M qv w' uc).1
   obtain ⟨d0,d1,d2,d3,d4,d5⟩:=zx (M qv w' uc).2
   go_simp
   try rfl
  intro h2 hK
  go_simp
  refine hK _ ?_
  clear hK h2)
 refine aN (v:=.bool (bw t.side t.ticks o)) ?_ ?_ ?_
 ·rfl
 ·intro w' uc
  go_simp
  refine (l04Crosses_any t.side t.ticks o _).mono ?_
  rintro e w3 ⟨rfl,uz⟩
  exact ⟨rfl,uc.trans (zU uz tg)⟩
 intro h2 hK
 go_simp
 refine hK _ ?_
 clear hK h2
 cases hcr:bw t.side t.ticks o
 ·have HN:=Q (nex_no (M HFO) hcr)
  iterate 2 (
   refine aN (v:=?_) ?_ ?_ ?_
   rotate_left
   ·rfl
   ·intro w' uc
    go_simp
    try rfl
   intro h2 hK
   go_simp
   refine hK _ ?_
   clear hK h2)
  refine wpQuiet_nil ?_
  intro w3 uz
  have xM:=Q ((M xC).grown uz (M xC).size (fun g hg=>by cases hg))
  clear uz
  go_wp2_with fail
  go_ret
  exact ⟨_,rfl,M HN,M xM⟩
 ·have HN:Hid (NexS l t i):=.inr ⟨i,o,rfl,hi,M HIO,M HFO,hcr,M HL0⟩
  iterate 2 (
   refine aN (v:=?_) ?_ ?_ ?_
   rotate_left
   ·rfl
   ·intro w' uc
    go_simp
    try rfl
   intro h2 hK
   go_simp
   refine hK _ ?_
   clear hK h2)
  refine wpQuiet_nil ?_
  intro w3 uz
  have xM:=Q ((M xC).grown uz (M xC).size (fun g hg=>by cases hg))
  clear uz
  go_wp2_with fail
  go_ret
  exact ⟨_,rfl,M HN,M xM⟩
end Go.Proofs.YtbakanofkghmiaaGreat
