/-
  A new order accepted by the engine: proved by walking the method.
-/
import Derived.Test.YtopjoogdpjaocaaGreatTj22
set_option linter.unusedVariables false
set_option maxHeartbeats 6400000
set_option maxRecDepth 100000
namespace Go.Proofs.YtopjoogdpjaocaaGreat
open Go.RowKit
def accL (c:Cm) (next:Int) (F:List Od × Int × List Ev):List Od:=if 0 < F.2.1∧zaJ c.t = true then F.1 ++ [⟨next,c.s,tk c.p,F.2.1,c.l,c.g⟩] else F.1
def accE (c:Cm) (next:Int) (F:List Od × Int × List Ev):List Ev:=⟨1,⟨1,c.s,c.t,c.l,c.q,0,c.p,c.g⟩,next,0,0,0,0⟩ :: F.2.2 ++ (if 0 < F.2.1 then [⟨if zaJ c.t = true then 4 else 5,zCm,next,0,F.2.1,0,0⟩] else [])
theorem zH {B C e sz n:Nat} {v:Value} {xs:List Value} {W:World} (h:W.ownsRow B e sz v n xs) (hC:C ≤ B):W.ownsRow C e sz v n xs:=by
 refine ⟨h.1,?_⟩
 rcases h.2 with hn | ⟨g,cap,cur,rfl,hg,rest⟩
 ·exact .inl hn
 ·exact .inr ⟨g,cap,cur,rfl,Nat.le_trans hC hg,rest⟩
theorem ens_raise {mb B Bo C:Nat} {W:World} {gv:Value} {gs:List Value} {gl:List (List Ev)} {next:Int} {vq:Value} {l:List Od} {t:Tot} (h:EnS mb B Bo W gv gs gl next vq l t (.slice none 0 0) []) (h1:Bo ≤ C) (h2:C ≤ W.heap.size):EnS mb B C W gv gs gl next vq l t (.slice none 0 0) [] :=
 ⟨h.cells,h.there,h.grow,h.glen,h.geach,⟨fun g hg b hb=>Nat.lt_of_lt_of_le (h.glt.1 g hg b hb) h1,h.glt.2⟩,h.orow,World.ownsRow_nil _ _ _ _,h.box,Nat.le_trans h.bo h1,h2⟩
theorem ens_next {mb B Bo:Nat} {W:World} {gv:Value} {gs:List Value} {gl:List (List Ev)} {next:Int} {vq:Value} {l:List Od} {t:Tot} {vo:Value} {ts:List Ev} (h:EnS mb B Bo W gv gs gl next vq l t vo ts) (m:Int):EnS mb B Bo (W.setCell ⟨mb,1,none⟩ (.int .i64 m)) gv gs gl m vq l t vo ts:=by
 refine ⟨?_,zC h.there,zt h.grow (zj h.grow h.box (by decide)) _ _,h.glen,fun i g es hg hes=>zt (h.geach i g es hg hes) (zj (h.geach i g es hg hes) h.box (by decide)) _ _,h.glt,zt h.orow (zj h.orow h.box (by decide)) _ _,zt h.erow (zj h.erow h.box (by decide)) _ _,?_,h.bo,by simp only [World.setCell,Array.size_modify]; exact h.le⟩
 ·have:=zaP (j:=1) (u:=.int .i64 m) h.cells (by simp)
  exact this
 ·obtain ⟨cur,hc⟩:=h.box
  exact zN W mb 1 _ hc
theorem zcb {c:Cm} {id:Int}:∀ (n:Nat) (l:List Od) (left:Int) (ts:List Ev),(matL c id n l left ts).2.2.length ≤ ts.length + n
 | 0,_,_,_=>Nat.le_refl _
 | n + 1,l,left,ts=>by
  rw [matL]
  split
  ·split
   ·simp
   ·split
    ·refine Nat.le_trans (zcb n _ _ _) ?_
     rw [List.length_append]; simp; omega
    ·simp
  ·simp
theorem matS_kept {mb b S:Nat} {W W':World} {next:Int} {vq vt:Value} {l:List Od} {t:Od} {ts:List Ev} (h:MatS b S W next vq l t vt ts) (hk:KeptBut mb W.heap.size W W') (hm:mb < S) (hb:S ≤ b):MatS b S W' next vq l t vt ts:=by
 have hbl:=hk.block b h.lt (by omega)
 refine ⟨fun j u hj=>(World.cell?_of_block (a:=⟨b,0 + j,none⟩) hbl).trans (h.cells j u hj),fun j hj=>⟨?_,?_⟩,kb_row h.orow hk hm,kb_row h.erow hk hm,?_,Nat.le_trans h.le hk.size⟩
 ·rw [World.cell?_of_block (a:=⟨b,0 + j,none⟩) hbl]; exact (h.there j hj).1
 ·rw [World.frozen?_of_block (a:=⟨b,0 + j,none⟩) hbl]; exact (h.there j hj).2
 ·obtain ⟨cur,hc⟩:=h.box
  exact ⟨cur,hbl.trans hc⟩
theorem kept_less {mb B C:Nat} {w w':World} (h:KeptBut mb C w w') (hB:B ≤ C):KeptBut mb B w w':=⟨h.os,h.tape,h.output,h.size,fun k hk hm=>h.block k (by omega) hm⟩
theorem ens_far {mb B Bo b S:Nat} {W W':World} {gv:Value} {gs:List Value} {gl:List (List Ev)} {next n2:Int} {vq:Value} {l:List Od} {t:Tot} {vo:Value} {ts:List Ev} {vm vt:Value} {lm:List Od} {tm:Od} {tt:List Ev} (h:EnS mb B Bo W gv gs gl next vq l t vo ts) (hM:MatS b S W n2 vm lm tm vt tt) (ht:TookAt b 0 vm.ownBlock W W') (hq:∀ g,vq.ownBlock = some g→g < S) (hm:mb < S) (hb:S ≤ b):EnS mb B Bo W' gv gs gl next vq l t vo ts:=by
 have hbl:W'.heap[mb]? = W.heap[mb]?:=ht.block mb h.lt (by omega) (zj hM.orow h.box (by decide))
 refine ⟨fun j u hj=>(World.cell?_of_block (a:=⟨mb,0 + j,none⟩) hbl).trans (h.cells j u hj),fun j hj=>⟨?_,?_⟩,zam h.grow ht (zj h.grow hM.box (by decide)) (zB h.grow hM.orow (by decide)),h.glen,fun i g es hg hes=>zam (h.geach i g es hg hes) ht (zj (h.geach i g es hg hes) hM.box (by decide)) (zB (h.geach i g es hg hes) hM.orow (by decide)),h.glt,zam h.orow ht (zj h.orow hM.box (by decide)) ?_,zam h.erow ht (zj h.erow hM.box (by decide)) (zB h.erow hM.orow (by decide)),?_,h.bo,Nat.le_trans h.le ht.size⟩
 ·rw [World.cell?_of_block (a:=⟨mb,0 + j,none⟩) hbl]; exact (h.there j hj).1
 ·rw [World.frozen?_of_block (a:=⟨mb,0 + j,none⟩) hbl]; exact (h.there j hj).2
 ·cases e:vq.ownBlock with
  | none=>exact .inl rfl
  | some g=>exact .inr fun e'=>by have:=hq g e; have:=(hM.orow.lt g e'.symm).1; omega
 ·obtain ⟨cur,hc⟩:=h.box
  exact ⟨cur,hbl.trans hc⟩
theorem zV {B e sz n:Nat} {v:Value} {xs:List Value} {W:World} (h:W.ownsRow B e sz v n xs):∃ a c,v = .slice a n c:=by
 rcases h.2 with ⟨e,e2⟩ | ⟨g,cap,cur,e,_⟩
 ·exact ⟨none,0,by rw [e,e2]⟩
 ·exact ⟨_,_,e⟩
theorem matS_told {mb b S Bo:Nat} {W W':World} {next:Int} {vq vt vo:Value} {l:List Od} {t:Od} {ts es:List Ev} (h:MatS b S W next vq l t vt ts) (ht:TookAt mb 10 vo.ownBlock W W') (ho:ERow W Bo vo es) (hm:mb < S) (hb:S ≤ b) (hvt:∀ g,vt.ownBlock = some g→vo.ownBlock ≠ some g):MatS b S W' next vq l t vt ts:=by
 have hbl:W'.heap[b]? = W.heap[b]?:=ht.block b h.lt (by omega) (zj ho h.box (by decide))
 refine ⟨fun j u hj=>(World.cell?_of_block (a:=⟨b,0 + j,none⟩) hbl).trans (h.cells j u hj),fun j hj=>⟨?_,?_⟩,zam h.orow ht (fun e=>by have:=(h.orow.lt mb e.symm).1; omega) (zB h.orow ho (by decide)),zam h.erow ht (fun e=>by have:=(h.erow.lt mb e.symm).1; omega) ?_,?_,Nat.le_trans h.le ht.size⟩
 ·rw [World.cell?_of_block (a:=⟨b,0 + j,none⟩) hbl]; exact (h.there j hj).1
 ·rw [World.frozen?_of_block (a:=⟨b,0 + j,none⟩) hbl]; exact (h.there j hj).2
 ·cases e:vt.ownBlock with
  | none=>exact .inl rfl
  | some g=>exact .inr fun e'=>hvt g e e'.symm
 ·obtain ⟨cur,hc⟩:=h.box
  exact ⟨cur,hbl.trans hc⟩
theorem ens_book {mb B Bo:Nat} {W:World} {gv:Value} {gs:List Value} {gl:List (List Ev)} {next:Int} {vq vq':Value} {l l':List Od} {t:Tot} {vo:Value} {ts:List Ev} (h:EnS mb B Bo W gv gs gl next vq l t vo ts) (m:Int) (ho:ORow W B vq' l'):EnS mb B Bo ((W.setCell ⟨mb,1,none⟩ (.int .i64 m)).setCell ⟨mb,2,none⟩ vq') gv gs gl m vq' l' t vo ts:=by
 have h1:=ens_next h m
 have hn:some mb ≠ vq'.ownBlock:=zj ho h.box (by decide)
 have ho1:=zt ho hn 1 (.int .i64 m)
 have ho2:=zt ho1 hn 2 vq'
 exact ens_took h1 (World.cell?_setCell_same _ _ _ (h1.cells 2 _ rfl)) ho2 (zbK (o:=1) _ _)
def CAx1 (mb S n cap:Nat) (a:Option Addr) (next s ty li qt tk0 Fl:Int) (pr:Nat) (tg:ByteArray) (FL:List Od) (Ft:List Ev) (W:World):Nat→Value→Prop
 | 0,v=>v = .pointer (some ⟨mb,0,none⟩)
 | 1,v=>v = .pointer (some ⟨mb,0,none⟩)
 | 2,v=>v = .pointer (some ⟨mb,0,none⟩)
 | 3,v=>v = .pointer (some ⟨mb,1,none⟩)
 | 4,v=>v = .agg #[.int .i64 next,.slice a n cap]
 | 5,v=>v = .agg #[.int .i64 s,.int .i64 ty,.int .i64 li,.int .i64 qt,.float .f64 pr,.string tg]
 | 6,v=>∃ aq cq av cv,v = .agg #[.int .i64 (next + 1),.slice aq FL.length cq,.int .i64 next,.int .i64 s,.int .i64 tk0,.int .i64 Fl,.int .i64 li,.string tg,.slice av Ft.length cv]∧ORow W S (.slice aq FL.length cq) FL∧ERow W S (.slice av Ft.length cv) Ft
 | 7,v=>∃ b,v = .pointer (some ⟨b,0,none⟩)∧S ≤ b∧b < W.heap.size∧W.there b 0 9∧∃ cur,W.heap[b]? = some (.cells cur 126 (0,0))
 | _,_=>True
theorem ca1_mono {mb S n cap:Nat} {a:Option Addr} {next s ty li qt tk0 Fl:Int} {pr:Nat} {tg:ByteArray} {FL:List Od} {Ft:List Ev}:∀ W W' j v,Below W.heap.size W W'→CAx1 mb S n cap a next s ty li qt tk0 Fl pr tg FL Ft W j v→CAx1 mb S n cap a next s ty li qt tk0 Fl pr tg FL Ft W' j v:=by
 intro W W' j v hb h
 match j with
 | 0 | 1 | 2 | 3 | 4 | 5=>exact h
 | 6=>obtain ⟨aq,cq,av,cv,h1,h2,h3⟩:=h; exact ⟨aq,cq,av,cv,h1,zk h2 hb,zI h3 hb⟩
 | 7=>obtain ⟨b,h1,h2,h3,h4,cur,h5⟩:=h; exact ⟨b,h1,h2,Nat.lt_of_lt_of_le h3 hb.size,zf h4 hb h3,cur,(hb.block b h3).trans h5⟩
 | j + 8=>trivial
def CQ1 (X:World) (next s tk0 Fl li:Int) (tg:ByteArray) (FL:List Od) (Ft:List Ev) (f:Nat→Value) (W:World):Prop:=∃ b vq vt,f 7 = .pointer (some ⟨b,0,none⟩)∧X.heap.size ≤ b∧MatS b X.heap.size W (next + 1) vq FL ⟨next,s,tk0,Fl,li,tg⟩ vt Ft∧Below X.heap.size X W
def CA2 (mb b:Nat) (next s ty li qt:Int) (pr:Nat) (tg:ByteArray) (W:World):Nat→Value→Prop
 | 0,v=>v = .pointer (some ⟨mb,0,none⟩)
 | 1,v=>v = .agg #[.int .i64 s,.int .i64 ty,.int .i64 li,.int .i64 qt,.float .f64 pr,.string tg]
 | 2,v=>v = .agg #[.int .i64 1,.int .i64 s,.int .i64 ty,.int .i64 li,.int .i64 qt,.int .i64 0,.float .f64 pr,.string tg]
 | 3,v=>v = .pointer (some ⟨b,2,none⟩)
 | 4,v=>v = .pointer (some ⟨b,2,none⟩)
 | 5,v=>v = .int .i64 next
 | 6,v=>v = .agg #[.int .i64 1,.int .i64 1,.int .i64 s,.int .i64 ty,.int .i64 li,.int .i64 qt,.int .i64 0,.float .f64 pr,.string tg,.int .i64 next,.int .i64 0,.int .i64 0,.int .i64 0,.int .i64 0]
 | _,_=>True
theorem ca2_mono {mb b:Nat} {next s ty li qt:Int} {pr:Nat} {tg:ByteArray}:∀ W W' j v,Below W.heap.size W W'→CA2 mb b next s ty li qt pr tg W j v→CA2 mb b next s ty li qt pr tg W' j v:=by
 intro W W' j v hb h
 match j with
 | 0 | 1 | 2 | 3 | 4 | 5 | 6=>exact h
 | j + 7=>trivial
set_option maxRecDepth 100000 in
set_option maxHeartbeats 6400000 in
theorem acceptE_any {mb B Bo:Nat} {gv:Value} {gs:List Value} {gl:List (List Ev)} {next:Int} {vq:Value} {l:List Od} {t:Tot} (c:Cm) (w:World) (h:EnS mb B Bo w gv gs gl next vq l t (.slice none 0 0) []) (hg:GoodL l) (h0:0 ≤ next) (h1:next ≤ 1000000) (hq0:0 ≤ c.q) (hq1:c.q ≤ 1000000) :
  Calls Tryz.prog 50 #[.pointer (some ⟨mb,0,none⟩),noV c] w fun r w'=>r = .returned (.tuple #[])∧(∃ Bo' vq' vo',EnS mb B Bo' w' gv gs gl (next + 1) vq' (accL c next (matL c next 21 l c.q [])) t vo' (accE c next (matL c next 21 l c.q [])))∧KeptBut mb B w w':=by
 have hmw:=h.lt
 have hBw:B ≤ w.heap.size:=Nat.le_trans h.bo h.le
 have hlen20:=hg.len
 obtain ⟨a,cap,rfl,hrlen,hc⟩:=zM h.orow (by omega)
 have HRD0:=hide (zM h.orow (by omega))
 have HOR:=hide h.orow
 have HFG:=hide (zba (c:=c) (id:=next) 21 l c.q [] hg hq0 hq1)
 have HMF:=hide (zcb (c:=c) (id:=next) 21 l c.q [])
 obtain ⟨kk,s,ty,li,qt,ii,pr,tg⟩:=c
 have HSL:Hid (SlOk (.slice a l.length cap)):=oRow_sl h.orow
 have HCA:Hid (∀ W:World,RdR Od.vs 6 W (.slice a l.length cap) l→Calls Tryz.prog 70 #[.agg #[.int .i64 next,.slice a l.length cap],.agg #[.int .i64 s,.int .i64 ty,.int .i64 li,.int .i64 qt,.float .f64 pr,.string tg]] W _):=fun W hW=>match_any next _ l ⟨kk,s,ty,li,qt,ii,pr,tg⟩ W hW (za HSL) hg h0 h1 hq0 hq1
 have HTO:Hid (∀ W:World,Calls Tryz.prog 71 #[.agg #[.int .i64 s,.int .i64 ty,.int .i64 li,.int .i64 qt,.float .f64 pr,.string tg]] W _):=fun W=>toldNew_any ⟨kk,s,ty,li,qt,ii,pr,tg⟩ W
 have HRS:Hid (∀ W:World,Calls Tryz.prog 72 #[.agg #[.int .i64 s,.int .i64 ty,.int .i64 li,.int .i64 qt,.float .f64 pr,.string tg]] W _):=fun W=>zbW ⟨kk,s,ty,li,qt,ii,pr,tg⟩ W
 generalize hmat:matL ⟨kk,s,ty,li,qt,ii,pr,tg⟩ next 21 l qt [] = F at HFG HCA HMF ⊢
 obtain ⟨FL,Fl,Ft⟩:=F
 unfold noV
 simp only at HCA HFG HTO HRS HMF ⊢
 have hb1:Below w.heap.size w (w.alloc (Obj.cells #[.int .i64 s,.int .i64 ty,.int .i64 li,.int .i64 qt,.float .f64 pr,.string tg] 99)):=(Below.refl _ _).alloc (Nat.le_refl _) _
 have HE:=hide (zO h hb1)
 have HB1:=hide hb1
 have hs1:w.heap.size < (w.alloc (Obj.cells #[.int .i64 s,.int .i64 ty,.int .i64 li,.int .i64 qt,.float .f64 pr,.string tg] 99)).heap.size:=by rw [ze]; omega
 have HNR:Hid (World.rangeAt (w.alloc (Obj.cells #[.int .i64 s,.int .i64 ty,.int .i64 li,.int .i64 qt,.float .f64 pr,.string tg] 99)) w.heap.size 0 [.int .i64 s,.int .i64 ty,.int .i64 li,.int .i64 qt,.float .f64 pr,.string tg]):=zh w [.int .i64 s,.int .i64 ty,.int .i64 li,.int .i64 qt,.float .f64 pr,.string tg] _
 have HRD:=hide (zl (za HRD0) hb1 (Nat.le_refl _))
 have HNUM:Hid (0 ≤ next∧next ≤ 1000000):=⟨h0,h1⟩
 clear h hb1 hc hrlen hg h0 h1 hq0 hq1 hmat HRD0
 go_enter Tryz.func50,Tryz.ntmps50
 refine wp_seq_k fun K hK=>?_
 have HK1:=hide hK
 clear hK
 go_wp2_with fail
 refine za HK1 _ _ ?_
 clear HK1
 generalize (w.alloc (Obj.cells #[.int .i64 s,.int .i64 ty,.int .i64 li,.int .i64 qt,.float .f64 pr,.string tg] 99)) = X at HE HB1 hs1 HNR HRD ⊢
 have HM1:Hid (X.cell? ⟨mb,1,none⟩ = some (.int .i64 next)):=(za HE).cells 1 _ rfl
 have HM2:Hid (X.cell? ⟨mb,2,none⟩ = some (.slice a l.length cap)):=(za HE).cells 2 _ rfl
 refine wp_seq_k fun K hK=>?_
 have HK1:=hide hK
 clear hK
 refine zo (RYA (fun f=>{ tmps:=#[.pointer (some ⟨mb,0,none⟩),.agg #[.int .i64 s,.int .i64 ty,.int .i64 li,.int .i64 qt,.float .f64 pr,.string tg],undef,.pointer (some ⟨w.heap.size,0,none⟩),f 7,undef,undef,undef,undef,f 0,f 1,f 2,f 3,f 4,f 5,f 6,undef,undef,undef,undef,undef,undef,undef,undef,undef,undef,undef,undef,undef,undef,undef,undef,undef,undef,undef,undef,undef,undef,undef,undef,undef,undef,undef,undef,undef,undef,undef,undef,undef,undef,undef,undef,undef,undef,undef,undef,undef],defers:=[] }) (CAx1 mb X.heap.size l.length cap a next s ty li qt (tk pr) Fl pr tg FL Ft) 8 (CQ1 X next s (tk pr) Fl li tg FL Ft) X) (by kernel_rfl) ?_ ?_ ?_
 ·exact ⟨fun _=>undef,rfl,ry_start (by decide)⟩
 rotate_left
 ·rintro x A V i op ⟨f,rfl,hR⟩ hcl hx ho hxi hall
  have HRR:=hide hR
  have cellV:x[8]? = some false→∀ (p:Addr) u,X.cell? p = some u→V.cell? p = some u:=fun hn p u hu=>((hR.b hn).cell (World.block_lt_of_cell? X _ hu)).trans hu
  match i,ho with
  | 0,ho =>
   obtain rfl:=Option.some.inj ho
   have hn:x[8]? = some false:=zx hcl 12 0 8 (by kernel_rfl) hx (by simp) hxi
   clear hall hR hcl
   rw [if_pos (by rfl)]
   unfold Oper.wp
   go_simp
   exact ⟨upd f 0 (.pointer (some ⟨mb,0,none⟩)),by simp [upd],zU (za HRR) 0 _ hn (by decide) rfl⟩
  | 1,ho =>
   obtain rfl:=Option.some.inj ho
   have hn:x[8]? = some false:=zx hcl 12 1 8 (by kernel_rfl) hx (by simp) hxi
   have g0:f 0 = .pointer (some ⟨mb,0,none⟩):=hR.c hn 0 (hall ⟨0,.data⟩ (by simp) rfl)
   clear hall hR hcl
   rw [if_pos (by rfl)]
   unfold Oper.wp
   go_simp
   exact ⟨upd f 1 (.pointer (some ⟨mb,0,none⟩)),by simp [upd,g0],zU (za HRR) 1 _ hn (by decide) rfl⟩
  | 2,ho =>
   obtain rfl:=Option.some.inj ho
   have hn:x[8]? = some false:=zx hcl 12 2 8 (by kernel_rfl) hx (by simp) hxi
   have g1:f 1 = .pointer (some ⟨mb,0,none⟩):=hR.c hn 1 (hall ⟨1,.data⟩ (by simp) rfl)
   clear hall hR hcl
   rw [if_pos (by rfl)]
   unfold Oper.wp
   go_simp
   exact ⟨upd f 2 (.pointer (some ⟨mb,0,none⟩)),by simp [upd,g1],zU (za HRR) 2 _ hn (by decide) rfl⟩
  | 3,ho =>
   obtain rfl:=Option.some.inj ho
   have hn:x[8]? = some false:=zx hcl 12 3 8 (by kernel_rfl) hx (by simp) hxi
   have g2:f 2 = .pointer (some ⟨mb,0,none⟩):=hR.c hn 2 (hall ⟨2,.data⟩ (by simp) rfl)
   clear hall hR hcl
   rw [if_pos (by rfl)]
   unfold Oper.wp
   go_simp
   exact ⟨upd f 3 (.pointer (some ⟨mb,1,none⟩)),by simp [upd,g2],zU (za HRR) 3 _ hn (by decide) rfl⟩
  | 4,ho =>
   obtain rfl:=Option.some.inj ho
   have hn:x[8]? = some false:=zx hcl 12 4 8 (by kernel_rfl) hx (by simp) hxi
   have g3:f 3 = .pointer (some ⟨mb,1,none⟩):=hR.c hn 3 (hall ⟨3,.data⟩ (by simp) rfl)
   have z1:=cellV hn ⟨mb,1,none⟩ _ (za HM1)
   have z2:=cellV hn ⟨mb,2,none⟩ _ (za HM2)
   clear hall hR hcl
   rw [if_pos (by rfl)]
   unfold Oper.wp
   go_simp
   exact ⟨upd f 4 (.agg #[.int .i64 next,.slice a l.length cap]),by simp [upd,g3],zU (za HRR) 4 _ hn (by decide) rfl⟩
  | 5,ho =>
   obtain rfl:=Option.some.inj ho
   have hn:x[8]? = some false:=zx hcl 12 5 8 (by kernel_rfl) hx (by simp) hxi
   have y0:=cellV hn ⟨w.heap.size,0,none⟩ _ (za HNR 0 _ rfl)
   have y1:=cellV hn ⟨w.heap.size,1,none⟩ _ (za HNR 1 _ rfl)
   have y2:=cellV hn ⟨w.heap.size,2,none⟩ _ (za HNR 2 _ rfl)
   have y3:=cellV hn ⟨w.heap.size,3,none⟩ _ (za HNR 3 _ rfl)
   have y4:=cellV hn ⟨w.heap.size,4,none⟩ _ (za HNR 4 _ rfl)
   have y5:=cellV hn ⟨w.heap.size,5,none⟩ _ (za HNR 5 _ rfl)
   clear hall hR hcl
   rw [if_pos (by rfl)]
   unfold Oper.wp
   go_simp
   exact ⟨upd f 5 (.agg #[.int .i64 s,.int .i64 ty,.int .i64 li,.int .i64 qt,.float .f64 pr,.string tg]),by simp [upd],zU (za HRR) 5 _ hn (by decide) rfl⟩
  | 6,ho =>
   obtain rfl:=Option.some.inj ho
   have hn:x[8]? = some false:=zx hcl 12 6 8 (by kernel_rfl) hx (by simp) hxi
   have g4:f 4 = .agg #[.int .i64 next,.slice a l.length cap]:=hR.c hn 4 (hall ⟨4,.data⟩ (by simp) rfl)
   have g5:f 5 = .agg #[.int .i64 s,.int .i64 ty,.int .i64 li,.int .i64 qt,.float .f64 pr,.string tg]:=hR.c hn 5 (hall ⟨5,.data⟩ (by simp) rfl)
   have HRV:=hide (zl (za HRD) (hR.b hn) (Nat.le_refl _))
   have hszV:=(hR.b hn).size
   clear hall hR hcl
   rw [if_pos (by rfl)]
   unfold Oper.wp
   go_simp
   refine (za HCA V (za HRV)).mono ?_
   rintro e w4 ⟨vq4,vt4,rfl,hoq,het,hb4⟩
   obtain ⟨av,cv,rfl⟩:∃ a c,vt4 = .slice a Ft.length c:=by
    rcases het.2 with ⟨e,e2⟩ | ⟨g,cap,cur,e,_⟩
    ·exact ⟨none,0,by rw [e,e2]⟩
    ·exact ⟨_,_,e⟩
   obtain ⟨aq,cq,rfl⟩:∃ a c,vq4 = .slice a FL.length c:=by
    rcases hoq.2 with ⟨e,e2⟩ | ⟨g,cap,cur,e,_⟩
    ·exact ⟨none,0,by rw [e,e2]⟩
    ·exact ⟨_,_,e⟩
   exact ⟨upd f 6 (.agg #[.int .i64 (next + 1),.slice aq FL.length cq,.int .i64 next,.int .i64 s,.int .i64 (tk pr),.int .i64 Fl,.int .i64 li,.string tg,.slice av Ft.length cv]),by simp [upd,g4,g5],zU (ry_grow ca1_mono (za HRR) hn hb4) 6 _ hn (by decide) ⟨aq,cq,av,cv,rfl,zH hoq hszV,zH het hszV⟩⟩
  | 7,ho =>
   obtain rfl:=Option.some.inj ho
   have hn:x[8]? = some false:=zx hcl 12 7 8 (by kernel_rfl) hx (by simp) hxi
   have hszV:=(hR.b hn).size
   clear hall hR hcl
   rw [if_pos (by rfl)]
   unfold Oper.wp
   go_simp
   exact ⟨upd f 7 (.pointer (some ⟨V.heap.size,0,none⟩)),by simp [upd],zU (ry_grow ca1_mono (za HRR) hn ((Below.refl _ _).alloc (Nat.le_refl _) _)) 7 _ hn (by decide) ⟨V.heap.size,rfl,hszV,by rw [ze]; omega,zw V [.int .i64 0,.slice none 0 0,.int .i64 0,.int .i64 0,.int .i64 0,.int .i64 0,.int .i64 0,.string ⟨#[]⟩,.slice none 0 0] _,_,heap_alloc_new V _⟩⟩
  | 8,ho =>
   obtain rfl:=Option.some.inj ho
   have hn:x[8]? = some false:=hxi
   obtain ⟨aq,cq,av,cv,g6,hoq,het⟩:=hR.c hn 6 (hall ⟨6,.data⟩ (by simp) rfl)
   obtain ⟨b,g7,hSb,hbV,hth,hbox⟩:=hR.c hn 7 (hall ⟨7,.data⟩ (by simp) rfl)
   have HQ:Hid (CQ1 X next s (tk pr) Fl li tg FL Ft f (V.setCells b 0 [.int .i64 (next + 1),.slice aq FL.length cq,.int .i64 next,.int .i64 s,.int .i64 (tk pr),.int .i64 Fl,.int .i64 li,.string tg,.slice av Ft.length cv])):=⟨b,_,_,g7,hSb,matS_put (t:=⟨next,s,tk pr,Fl,li,tg⟩) hth hbox hoq het (hR.b hn).size,zm b hSb _ _ _ (hR.b hn)⟩
   obtain ⟨y0,z0,q0⟩:=zc hth (j:=0) (by omega)
   obtain ⟨y1,z1,q1⟩:=zc hth (j:=1) (by omega)
   obtain ⟨y2,z2,q2⟩:=zc hth (j:=2) (by omega)
   obtain ⟨y3,z3,q3⟩:=zc hth (j:=3) (by omega)
   obtain ⟨y4,z4,q4⟩:=zc hth (j:=4) (by omega)
   obtain ⟨y5,z5,q5⟩:=zc hth (j:=5) (by omega)
   obtain ⟨y6,z6,q6⟩:=zc hth (j:=6) (by omega)
   obtain ⟨y7,z7,q7⟩:=zc hth (j:=7) (by omega)
   obtain ⟨y8,z8,q8⟩:=zc hth (j:=8) (by omega)
   clear hall hR hcl hth hoq het hbox
   rw [if_pos (by rfl)]
   unfold Oper.wp
   go_simp
   exact ⟨f,by simp [g6,g7],ry_writeN (za HRR) hn (za HQ)⟩
  | n + 9,ho=>simp at ho
 ·rintro x A V ⟨f,rfl,hR⟩ hx hrd
  have hallx:=zac hrd hx (by kernel_rfl)
  obtain ⟨b,vqm,vtm,e7,hSb,hMS,hBX⟩:=hR.m (hallx 8 (by simp))
  refine za HK1 _ _ ?_
  clear HK1
  simp only [e7]
  generalize f 0 = v0
  generalize f 1 = v1
  generalize f 2 = v2
  generalize f 3 = v3
  generalize f 4 = v4
  generalize f 5 = v5
  generalize f 6 = v6
  have HMS:=hide hMS
  have HBX:=hide hBX
  clear hR hallx hrd hx hMS hBX e7 HRD HM1 HM2 HCA
  have hSV:X.heap.size ≤ V.heap.size:=(za HBX).size
  have HE6:=hide (ens_raise (zO (za HE) ((za HBX))) (Nat.le_trans (za HE).le hSV) (Nat.le_refl _))
  have HN6:=hide (zb (za HNR) (za HBX) hs1)
  have HMC:=hide (za HMS).cells
  have hbV:=(za HMS).lt
  have HK6:Hid (KeptBut mb B w V):=zi (zA (za HB1) hBw) (zA (za HBX) (by omega))
  clear HE HNR
  generalize V = W6 at HMS HE6 HN6 HMC hbV HK6 hSV HBX ⊢
  refine wp_seq_k fun K hK=>?_
  have HK1:=hide hK
  clear hK
  refine zo (RYA (fun f=>{ tmps:=#[.pointer (some ⟨mb,0,none⟩),.agg #[.int .i64 s,.int .i64 ty,.int .i64 li,.int .i64 qt,.float .f64 pr,.string tg],undef,.pointer (some ⟨w.heap.size,0,none⟩),.pointer (some ⟨b,0,none⟩),undef,undef,undef,undef,v0,v1,v2,v3,v4,v5,v6,f 0,f 1,f 2,f 3,f 4,f 5,f 6,f 7,undef,undef,undef,undef,undef,undef,undef,undef,undef,undef,undef,undef,undef,undef,undef,undef,undef,undef,undef,undef,undef,undef,undef,undef,undef,undef,undef,undef,undef,undef,undef,undef,undef],defers:=[] }) (CA2 mb b next s ty li qt pr tg) 7 (fun f W=>(∃ vo',EnS mb B W6.heap.size W gv gs gl next (.slice a l.length cap) l t vo' [⟨1,⟨1,s,ty,li,qt,0,pr,tg⟩,next,0,0,0,0⟩])∧KeptBut mb W6.heap.size W6 W) W6) (by kernel_rfl) ?_ ?_ ?_
  ·exact ⟨fun _=>undef,rfl,ry_start (by decide)⟩
  rotate_left
  ·rintro x A V2 i op ⟨f,rfl,hR⟩ hcl hx ho hxi hall
   have HRR:=hide hR
   have cellV:x[7]? = some false→∀ (p:Addr) u,W6.cell? p = some u→V2.cell? p = some u:=fun hn p u hu=>((hR.b hn).cell (World.block_lt_of_cell? W6 _ hu)).trans hu
   match i,ho with
   | 0,ho =>
    obtain rfl:=Option.some.inj ho
    have hn:x[7]? = some false:=zx hcl 12 0 7 (by kernel_rfl) hx (by simp) hxi
    clear hall hR hcl
    rw [if_pos (by rfl)]
    unfold Oper.wp
    go_simp
    exact ⟨upd f 0 (.pointer (some ⟨mb,0,none⟩)),by simp [upd],zU (za HRR) 0 _ hn (by decide) rfl⟩
   | 1,ho =>
    obtain rfl:=Option.some.inj ho
    have hn:x[7]? = some false:=zx hcl 12 1 7 (by kernel_rfl) hx (by simp) hxi
    have y0:=cellV hn ⟨w.heap.size,0,none⟩ _ (za HN6 0 _ rfl)
    have y1:=cellV hn ⟨w.heap.size,1,none⟩ _ (za HN6 1 _ rfl)
    have y2:=cellV hn ⟨w.heap.size,2,none⟩ _ (za HN6 2 _ rfl)
    have y3:=cellV hn ⟨w.heap.size,3,none⟩ _ (za HN6 3 _ rfl)
    have y4:=cellV hn ⟨w.heap.size,4,none⟩ _ (za HN6 4 _ rfl)
    have y5:=cellV hn ⟨w.heap.size,5,none⟩ _ (za HN6 5 _ rfl)
    clear hall hR hcl
    rw [if_pos (by rfl)]
    unfold Oper.wp
    go_simp
    exact ⟨upd f 1 (.agg #[.int .i64 s,.int .i64 ty,.int .i64 li,.int .i64 qt,.float .f64 pr,.string tg]),by simp [upd],zU (za HRR) 1 _ hn (by decide) rfl⟩
   | 2,ho =>
    obtain rfl:=Option.some.inj ho
    have hn:x[7]? = some false:=zx hcl 12 2 7 (by kernel_rfl) hx (by simp) hxi
    have g1:f 1 = .agg #[.int .i64 s,.int .i64 ty,.int .i64 li,.int .i64 qt,.float .f64 pr,.string tg]:=hR.c hn 1 (hall ⟨1,.data⟩ (by simp) rfl)
    clear hall hR hcl
    rw [if_pos (by rfl)]
    unfold Oper.wp
    go_simp
    refine (za HTO V2).mono ?_
    rintro e w4 ⟨rfl,hb4⟩
    exact ⟨upd f 2 (.agg #[.int .i64 1,.int .i64 s,.int .i64 ty,.int .i64 li,.int .i64 qt,.int .i64 0,.float .f64 pr,.string tg]),by simp [upd,g1],zU (ry_grow ca2_mono (za HRR) hn hb4) 2 _ hn (by decide) rfl⟩
   | 3,ho =>
    obtain rfl:=Option.some.inj ho
    have hn:x[7]? = some false:=zx hcl 12 3 7 (by kernel_rfl) hx (by simp) hxi
    clear hall hR hcl
    rw [if_pos (by rfl)]
    unfold Oper.wp
    go_simp
    exact ⟨upd f 3 (.pointer (some ⟨b,2,none⟩)),by simp [upd],zU (za HRR) 3 _ hn (by decide) rfl⟩
   | 4,ho =>
    obtain rfl:=Option.some.inj ho
    have hn:x[7]? = some false:=zx hcl 12 4 7 (by kernel_rfl) hx (by simp) hxi
    have g3:f 3 = .pointer (some ⟨b,2,none⟩):=hR.c hn 3 (hall ⟨3,.data⟩ (by simp) rfl)
    clear hall hR hcl
    rw [if_pos (by rfl)]
    unfold Oper.wp
    go_simp
    exact ⟨upd f 4 (.pointer (some ⟨b,2,none⟩)),by simp [upd,g3],zU (za HRR) 4 _ hn (by decide) rfl⟩
   | 5,ho =>
    obtain rfl:=Option.some.inj ho
    have hn:x[7]? = some false:=zx hcl 12 5 7 (by kernel_rfl) hx (by simp) hxi
    have g4:f 4 = .pointer (some ⟨b,2,none⟩):=hR.c hn 4 (hall ⟨4,.data⟩ (by simp) rfl)
    have z2:=cellV hn ⟨b,2,none⟩ _ (za HMC 2 _ rfl)
    clear hall hR hcl
    rw [if_pos (by rfl)]
    unfold Oper.wp
    go_simp
    exact ⟨upd f 5 (.int .i64 next),by simp [upd,g4],zU (za HRR) 5 _ hn (by decide) rfl⟩
   | 6,ho =>
    obtain rfl:=Option.some.inj ho
    have hn:x[7]? = some false:=zx hcl 12 6 7 (by kernel_rfl) hx (by simp) hxi
    have g2:f 2 = .agg #[.int .i64 1,.int .i64 s,.int .i64 ty,.int .i64 li,.int .i64 qt,.int .i64 0,.float .f64 pr,.string tg]:=hR.c hn 2 (hall ⟨2,.data⟩ (by simp) rfl)
    have g5:f 5 = .int .i64 next:=hR.c hn 5 (hall ⟨5,.data⟩ (by simp) rfl)
    clear hall hR hcl
    rw [if_pos (by rfl)]
    unfold Oper.wp
    go_simp
    exact ⟨upd f 6 (.agg #[.int .i64 1,.int .i64 1,.int .i64 s,.int .i64 ty,.int .i64 li,.int .i64 qt,.int .i64 0,.float .f64 pr,.string tg,.int .i64 next,.int .i64 0,.int .i64 0,.int .i64 0,.int .i64 0]),by simp [upd,g2,g5],zU (za HRR) 6 _ hn (by decide) rfl⟩
   | 7,ho =>
    obtain rfl:=Option.some.inj ho
    have hn:x[7]? = some false:=hxi
    have g0:f 0 = .pointer (some ⟨mb,0,none⟩):=hR.c hn 0 (hall ⟨0,.data⟩ (by simp) rfl)
    have g6:f 6 = .agg #[.int .i64 1,.int .i64 1,.int .i64 s,.int .i64 ty,.int .i64 li,.int .i64 qt,.int .i64 0,.float .f64 pr,.string tg,.int .i64 next,.int .i64 0,.int .i64 0,.int .i64 0,.int .i64 0]:=hR.c hn 6 (hall ⟨6,.data⟩ (by simp) rfl)
    have HEV:=hide (zO (za HE6) (hR.b hn))
    have hbV:=hR.b hn
    have HKV:Hid (KeptBut mb W6.heap.size W6 V2):=zA hbV (Nat.le_refl _)
    have hszV:=hbV.size
    clear hall hR hcl hbV
    rw [if_pos (by rfl)]
    unfold Oper.wp
    go_simp
    refine (zaQ ⟨1,⟨1,s,ty,li,qt,0,pr,tg⟩,next,0,0,0,0⟩ V2 (za HEV) (by simp)).mono ?_
    rintro e w5 ⟨rfl,⟨vo5,hE5⟩,-,ht5⟩
    exact ⟨upd f 7 (.tuple #[]),by simp [upd,g0,g6],ry_write (za HRR) hn _ ⟨⟨vo5,hE5⟩,zi (za HKV) (zaY ht5 hszV (fun g hg=>by simp [Value.ownBlock] at hg))⟩⟩
   | n + 8,ho=>simp at ho
  ·rintro x A V2 ⟨f,rfl,hR⟩ hx hrd
   have hallx:=zac hrd hx (by kernel_rfl)
   obtain ⟨hE7,hK7⟩:=hR.m (hallx 7 (by simp))
   refine za HK1 _ _ ?_
   clear HK1
   dsimp only
   generalize f 0 = u0
   generalize f 1 = u1
   generalize f 2 = u2
   generalize f 3 = u3
   generalize f 4 = u4
   generalize f 5 = u5
   generalize f 6 = u6
   generalize f 7 = u7
   have HST:Hid ((∃ vo',EnS mb B W6.heap.size V2 gv gs gl next (.slice a l.length cap) l t vo' (⟨1,⟨1,s,ty,li,qt,0,pr,tg⟩,next,0,0,0,0⟩ :: Ft.take 0))∧KeptBut mb W6.heap.size W6 V2):=⟨by simpa using hE7,hK7⟩
   clear hR hallx hrd hx hE7 hK7 HE6
   obtain ⟨av,cv,hvt⟩:=zV (za HMS).erow
   subst hvt
   have hmS:mb < X.heap.size:=Nat.lt_of_lt_of_le hmw (za HB1).size
   have hBS:B ≤ X.heap.size:=by omega
   have HMK:Hid (∀ wr:World,KeptBut mb W6.heap.size W6 wr→MatS b X.heap.size wr (next + 1) vqm FL ⟨next,s,tk pr,Fl,li,tg⟩ (.slice av Ft.length cv) Ft):=fun wr hk=>matS_kept (za HMS) hk hmS hSb
   have HNK:Hid (∀ wr:World,KeptBut mb W6.heap.size W6 wr→wr.rangeAt w.heap.size 0 [.int .i64 s,.int .i64 ty,.int .i64 li,.int .i64 qt,.float .f64 pr,.string tg]):=fun wr hk=>kb_range hk (za HN6) (by omega)
   have hF20:Ft.length ≤ 21:=by simpa using za HMF
   have hq6:Hid (∀ g,(Value.slice a l.length cap).ownBlock = some g→g < X.heap.size):=fun g hg=>Nat.lt_of_lt_of_le ((za HOR).lt g hg).2 (za HB1).size
   have HVT:Hid (∀ g,(Value.slice av Ft.length cv).ownBlock = some g→g < W6.heap.size):=fun g hg=>((za HMS).erow.lt g hg).2
   clear HMS HN6 HMC HMF HOR HBX
   have z8:V2.cell? ⟨b,8,none⟩ = some (.slice av Ft.length cv):=(za HMK V2 (za HST).2).cells 8 _ rfl
   refine wp_seq_k fun K hK=>?_
   have HK1:=hide hK
   clear hK
   go_wp2_with fail
   clear z8
   go_loopw [27] (fun iv wr=>∃ (k:Nat),k ≤ Ft.length∧iv = .int .i64 k∧Hid ((∃ vo',EnS mb B W6.heap.size wr gv gs gl next (.slice a l.length cap) l t vo' (⟨1,⟨1,s,ty,li,qt,0,pr,tg⟩,next,0,0,0,0⟩ :: Ft.take k))∧KeptBut mb W6.heap.size W6 wr)) (fun iv _=>Ft.length - (intOf iv).toNat)
   case atStart=>exact ⟨0,Nat.zero_le _,rfl,za HST⟩
   case round =>
    obtain ⟨k,hk,rfl,hin⟩:=hrel
    by_cases hlt:k < Ft.length
    ·obtain ⟨e,hke⟩:∃ e,Ft[k]? = some e:=⟨_,List.getElem?_eq_getElem hlt⟩
     obtain ⟨a',c',e1,_,hcl⟩:=zcp (zaX Ev.len (by omega) (za HMK wr (za hin).2).erow)
     obtain ⟨b',off,e2,hb',hcl⟩:=hcl (by rintro rfl; simp at hke)
     simp only [Value.slice.injEq] at e1
     obtain ⟨e1,-,-⟩:=e1
     rw [e2] at e1
     subst e1
     obtain ⟨g0,g1,g2,g3,g4,g5,g6,g7,g8,g9,g10,g11,g12,g13⟩:=zal (hcl k e hke)
     have hlt':(k:Int) < Ft.length:=by omega
     have hk0:(0:Int) ≤ k:=by omega
     obtain ⟨⟨vo6,hE6⟩,hk6⟩:=za hin
     have hbY:Below wr.heap.size wr (wr.alloc (Obj.cells #[.int .i64 e.kind,.int .i64 e.cmd.k,.int .i64 e.cmd.s,.int .i64 e.cmd.t,.int .i64 e.cmd.l,.int .i64 e.cmd.q,.int .i64 e.cmd.i,.float .f64 e.cmd.p,.string e.cmd.g,.int .i64 e.id,.int .i64 e.other,.int .i64 e.qty,.int .i64 e.price,.int .i64 e.reason] 43)):=(Below.refl _ _).alloc (Nat.le_refl _) _
     have hszW:W6.heap.size ≤ wr.heap.size:=hk6.size
     have HEY:=hide (zO hE6 hbY)
     have HKY:=hide (zi hk6 (zA hbY hszW))
     have HNX:Hid (Ft.take (k + 1) = Ft.take k ++ [e]):=by show _ = _; rw [List.take_add_one,hke]; rfl
     have HLN:Hid ((⟨1,⟨1,s,ty,li,qt,0,pr,tg⟩,next,0,0,0,0⟩ :: Ft.take k:List Ev).length ≤ 1000):=by show _ ≤ _; simp [List.length_take]; omega
     have hszY:W6.heap.size ≤ (wr.alloc (Obj.cells #[.int .i64 e.kind,.int .i64 e.cmd.k,.int .i64 e.cmd.s,.int .i64 e.cmd.t,.int .i64 e.cmd.l,.int .i64 e.cmd.q,.int .i64 e.cmd.i,.float .f64 e.cmd.p,.string e.cmd.g,.int .i64 e.id,.int .i64 e.other,.int .i64 e.qty,.int .i64 e.price,.int .i64 e.reason] 43)).heap.size:=Nat.le_trans hszW hbY.size
     clear hin hE6 hk6 hcl hbY hke e2 hb'
     have hsf:=sfl
     go_wp2_with fail
     generalize (wr.alloc (Obj.cells #[.int .i64 e.kind,.int .i64 e.cmd.k,.int .i64 e.cmd.s,.int .i64 e.cmd.t,.int .i64 e.cmd.l,.int .i64 e.cmd.q,.int .i64 e.cmd.i,.float .f64 e.cmd.p,.string e.cmd.g,.int .i64 e.id,.int .i64 e.other,.int .i64 e.qty,.int .i64 e.price,.int .i64 e.reason] 43)) = Y at HEY HKY hszY ⊢
     refine (zaQ e Y (za HEY) (za HLN)).mono ?_
     rintro e w6 ⟨rfl,⟨vo7,hE7⟩,-,ht7⟩
     have HN:Hid ((∃ vo',EnS mb B W6.heap.size w6 gv gs gl next (.slice a l.length cap) l t vo' (⟨1,⟨1,s,ty,li,qt,0,pr,tg⟩,next,0,0,0,0⟩ :: Ft.take (k + 1)))∧KeptBut mb W6.heap.size W6 w6):=⟨⟨vo7,by rw [za HNX]; exact hE7⟩,zi (za HKY) (zaY ht7 hszY (fun g hg=>((za HEY).erow.lt g hg).1))⟩
     clear hE7 ht7
     go_wp2_with fail
     go_roundw
     case rel=>exact ⟨k + 1,by omega,by go_num,za HN⟩
     case measure=>simp [intOf]; omega
    ·obtain rfl:k = Ft.length:=by omega
     rw [List.take_of_length_le (Nat.le_refl _)] at hin
     have hlt':¬ (Ft.length:Int) < Ft.length:=by omega
     have HE8:=hide (za hin).1
     have HK8:=hide (za hin).2
     have HM8:=hide (za HMK wr (za hin).2)
     have HN8:=hide (za HNK wr (za hin).2)
     have HKw8:Hid (KeptBut mb B w wr):=zi (za HK6) (kept_less (za hin).2 (by omega))
     clear hin HST HMK HNK
     go_wp2_with fail
     refine za HK1 _ _ ?_
     clear HK1
     have y5:wr.cell? ⟨b,5,none⟩ = some (.int .i64 Fl):=(za HM8).cells 5 _ rfl
     refine wp_seq_k fun K hK=>?_
     have HK1:=hide hK
     clear hK
     by_cases hFl:0 < Fl
     ·have y0:wr.cell? ⟨w.heap.size,0,none⟩ = some (.int .i64 s):=za HN8 0 _ rfl
      have y1:wr.cell? ⟨w.heap.size,1,none⟩ = some (.int .i64 ty):=za HN8 1 _ rfl
      have y2:wr.cell? ⟨w.heap.size,2,none⟩ = some (.int .i64 li):=za HN8 2 _ rfl
      have y3:wr.cell? ⟨w.heap.size,3,none⟩ = some (.int .i64 qt):=za HN8 3 _ rfl
      have y4:wr.cell? ⟨w.heap.size,4,none⟩ = some (.float .f64 pr):=za HN8 4 _ rfl
      have y6:wr.cell? ⟨w.heap.size,5,none⟩ = some (.string tg):=za HN8 5 _ rfl
      go_wp2_with fail
      refine (za HRS wr).mono ?_
      rintro e w9 ⟨rfl,hb9⟩
      obtain ⟨vo8,hE8⟩:=za HE8
      have HE9:=hide (zO hE8 hb9)
      have HM9:=hide (zbj (za HM8) hb9)
      have HKw9:Hid (KeptBut mb B w w9):=zi (za HKw8) (zA hb9 (Nat.le_trans hBw (Nat.le_trans (za HKw8).size (Nat.le_refl _))))
      have hl22:(⟨1,⟨1,s,ty,li,qt,0,pr,tg⟩,next,0,0,0,0⟩ :: Ft:List Ev).length ≤ 1000:=by simp; omega
      clear hb9 hE8 y0 y1 y2 y3 y4 y5 y6 HE8 HM8 HN8 HK8
      cases hrb:zaJ ty
      ·have HAL:Hid (accL ⟨kk,s,ty,li,qt,ii,pr,tg⟩ next (FL,Fl,Ft) = FL∧accE ⟨kk,s,ty,li,qt,ii,pr,tg⟩ next (FL,Fl,Ft) = ⟨1,⟨1,s,ty,li,qt,0,pr,tg⟩,next,0,0,0,0⟩ :: Ft ++ [⟨5,zCm,next,0,Fl,0,0⟩]):=⟨by simp [accL,hrb],by simp [accE,hFl,hrb]⟩
       have x2:w9.cell? ⟨b,2,none⟩ = some (.int .i64 next):=(za HM9).cells 2 _ rfl
       go_wp2_with fail
       refine (zaQ ⟨5,zCm,next,0,Fl,0,0⟩ w9 (za HE9) hl22).mono ?_
       rintro e w10 ⟨rfl,hE10,hk10,ht10⟩
       have HEA:=hide hE10
       have HMA:Hid (MatS b X.heap.size w10 (next + 1) vqm FL ⟨next,s,tk pr,Fl,li,tg⟩ (.slice av Ft.length cv) Ft):=matS_told (za HM9) ht10 (za HE9).erow hmS hSb (fun g hg e=>by have:=za HVT g hg; have:=((za HE9).erow.lt g e).1; omega)
       have HKA:=hide (zi (za HKw9) hk10)
       clear hE10 hk10 ht10 x2
       go_wp2_with fail
       refine za HK1 _ _ ?_
       clear HK1
       have zf0:w10.cell? ⟨b,0,none⟩ = some (.int .i64 (next + 1)):=(za HMA).cells 0 _ rfl
       obtain ⟨aF,cF,hF⟩:=zV (za HMA).orow
       have zf1:w10.cell? ⟨b,1,none⟩ = some (.slice aF (FL).length cF):=by rw [← hF]; exact (za HMA).cells 1 _ rfl
       obtain ⟨voF,hEF⟩:=za HEA
       have zm1:w10.cell? ⟨mb,1,none⟩ = some (.int .i64 next):=hEF.cells 1 _ rfl
       have zm2:w10.cell? ⟨mb,2,none⟩ = some (.slice a l.length cap):=hEF.cells 2 _ rfl
       have fm1:w10.frozen? ⟨mb,1,none⟩ = false:=(hEF.there 1 (by omega)).2
       have fm2:w10.frozen? ⟨mb,2,none⟩ = false:=(hEF.there 2 (by omega)).2
       have HFE:=hide (ens_book hEF (next + 1) (zH (hF ▸ (za HMA).orow) hBS))
       have HFK:Hid (KeptBut mb B w _):=zi (za HKA) (zi (zbv w10 1 (.int .i64 (next + 1))) (zbv _ 2 (.slice aF (FL).length cF)))
       generalize (FL).length = nF at HFE HFK zf1
       clear hEF
       go_wp2_with fail
       go_end0
       exact ⟨rfl,⟨_,_,voF,by rw [(za HAL).1,(za HAL).2]; exact za HFE⟩,za HFK⟩
      ·have HAL:Hid (accL ⟨kk,s,ty,li,qt,ii,pr,tg⟩ next (FL,Fl,Ft) = FL ++ [(⟨next,s,tk pr,Fl,li,tg⟩:Od)]∧accE ⟨kk,s,ty,li,qt,ii,pr,tg⟩ next (FL,Fl,Ft) = ⟨1,⟨1,s,ty,li,qt,0,pr,tg⟩,next,0,0,0,0⟩ :: Ft ++ [⟨4,zCm,next,0,Fl,0,0⟩]):=⟨by simp [accL,hrb,hFl],by simp [accE,hFl,hrb]⟩
       go_wp2_with fail
       refine (rest_took b X.heap.size (next + 1) vqm FL ⟨next,s,tk pr,Fl,li,tg⟩ _ Ft w9 (za HM9) (by have:=(za HFG).1.len; omega)).mono ?_
       rintro e w10 ⟨vqr,rfl,hMr,htr⟩
       have HE10:=hide (ens_far (za HE9) (za HM9) htr (za hq6) hmS hSb)
       have HMr:=hide hMr
       have HKw10:Hid (KeptBut mb B w w10):=zi (za HKw9) ⟨htr.os,htr.tape,htr.output,htr.size,fun k hk _=>htr.block k (by have:=(za HM9).le; omega) (by omega) (fun e=>by have:=((za HM9).orow.lt k e.symm).1; omega)⟩
       have x2:w10.cell? ⟨b,2,none⟩ = some (.int .i64 next):=hMr.cells 2 _ rfl
       clear hMr htr HE9 HM9
       go_wp2_with fail
       refine (zaQ ⟨4,zCm,next,0,Fl,0,0⟩ w10 (za HE10) hl22).mono ?_
       rintro e w11 ⟨rfl,hE11,hk11,ht11⟩
       have HEA:=hide hE11
       have HMA:Hid (MatS b X.heap.size w11 (next + 1) vqr (FL ++ [(⟨next,s,tk pr,Fl,li,tg⟩:Od)]) ⟨next,s,tk pr,Fl,li,tg⟩ (.slice av Ft.length cv) Ft):=matS_told (za HMr) ht11 (za HE10).erow hmS hSb (fun g hg e=>by have:=za HVT g hg; have:=((za HE10).erow.lt g e).1; omega)
       have HKA:=hide (zi (za HKw10) hk11)
       clear hE11 hk11 ht11 x2
       go_wp2_with fail
       refine za HK1 _ _ ?_
       clear HK1
       have zf0:w11.cell? ⟨b,0,none⟩ = some (.int .i64 (next + 1)):=(za HMA).cells 0 _ rfl
       obtain ⟨aF,cF,hF⟩:=zV (za HMA).orow
       have zf1:w11.cell? ⟨b,1,none⟩ = some (.slice aF (FL ++ [(⟨next,s,tk pr,Fl,li,tg⟩:Od)]).length cF):=by rw [← hF]; exact (za HMA).cells 1 _ rfl
       obtain ⟨voF,hEF⟩:=za HEA
       have zm1:w11.cell? ⟨mb,1,none⟩ = some (.int .i64 next):=hEF.cells 1 _ rfl
       have zm2:w11.cell? ⟨mb,2,none⟩ = some (.slice a l.length cap):=hEF.cells 2 _ rfl
       have fm1:w11.frozen? ⟨mb,1,none⟩ = false:=(hEF.there 1 (by omega)).2
       have fm2:w11.frozen? ⟨mb,2,none⟩ = false:=(hEF.there 2 (by omega)).2
       have HFE:=hide (ens_book hEF (next + 1) (zH (hF ▸ (za HMA).orow) hBS))
       have HFK:Hid (KeptBut mb B w _):=zi (za HKA) (zi (zbv w11 1 (.int .i64 (next + 1))) (zbv _ 2 (.slice aF (FL ++ [(⟨next,s,tk pr,Fl,li,tg⟩:Od)]).length cF)))
       generalize (FL ++ [(⟨next,s,tk pr,Fl,li,tg⟩:Od)]).length = nF at HFE HFK zf1
       clear hEF
       go_wp2_with fail
       go_end0
       exact ⟨rfl,⟨_,_,voF,by rw [(za HAL).1,(za HAL).2]; exact za HFE⟩,za HFK⟩
     ·have HAL:Hid (accL ⟨kk,s,ty,li,qt,ii,pr,tg⟩ next (FL,Fl,Ft) = FL∧accE ⟨kk,s,ty,li,qt,ii,pr,tg⟩ next (FL,Fl,Ft) = ⟨1,⟨1,s,ty,li,qt,0,pr,tg⟩,next,0,0,0,0⟩ :: Ft):=⟨by simp [accL,hFl],by simp [accE,hFl]⟩
      go_wp2_with fail
      refine za HK1 _ _ ?_
      clear HK1
      have zf0:wr.cell? ⟨b,0,none⟩ = some (.int .i64 (next + 1)):=(za HM8).cells 0 _ rfl
      obtain ⟨aF,cF,hF⟩:=zV (za HM8).orow
      have zf1:wr.cell? ⟨b,1,none⟩ = some (.slice aF (FL).length cF):=by rw [← hF]; exact (za HM8).cells 1 _ rfl
      obtain ⟨voF,hEF⟩:=za HE8
      have zm1:wr.cell? ⟨mb,1,none⟩ = some (.int .i64 next):=hEF.cells 1 _ rfl
      have zm2:wr.cell? ⟨mb,2,none⟩ = some (.slice a l.length cap):=hEF.cells 2 _ rfl
      have fm1:wr.frozen? ⟨mb,1,none⟩ = false:=(hEF.there 1 (by omega)).2
      have fm2:wr.frozen? ⟨mb,2,none⟩ = false:=(hEF.there 2 (by omega)).2
      have HFE:=hide (ens_book hEF (next + 1) (zH (hF ▸ (za HM8).orow) hBS))
      have HFK:Hid (KeptBut mb B w _):=zi (za HKw8) (zi (zbv wr 1 (.int .i64 (next + 1))) (zbv _ 2 (.slice aF (FL).length cF)))
      generalize (FL).length = nF at HFE HFK zf1
      clear hEF
      go_wp2_with fail
      go_end0
      exact ⟨rfl,⟨_,_,voF,by rw [(za HAL).1,(za HAL).2]; exact za HFE⟩,za HFK⟩
end Go.Proofs.YtopjoogdpjaocaaGreat
