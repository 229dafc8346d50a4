/-
  The exact law of RunScript, walked: it returns true, and nothing that was there is turned.
-/
import Derived.Test.YtdfihaabhichdaaGreatRj31
import Derived.Test.YtdfihaabhichdaaGreatRj33
import Derived.Test.YtdfihaabhichdaaGreatRj36
import Derived.Test.YtdfihaabhichdaaGreatRj49
namespace Go.Proofs.YtdfihaabhichdaaGreat
open Go.RowKit
set_option linter.unusedVariables false

theorem rsF_few (cs:List Cm):(rsF cs).g.length ≤ 200∧(∀ es ∈ (rsF cs).g,es.length ≤ 100)∧(rsF cs).l.length ≤ 1000:=by
 unfold rsF
 split
 ·next h =>
  have h1:=run_inv cs h
  have h2:=run_few cs h cs.length (Nat.le_refl _)
  rw [List.take_of_length_le (Nat.le_refl _)] at h2
  exact ⟨by rw [h1.2.2.2]; exact h,h2,by have:=h1.1.good.len; show (runS cs).l.length ≤ 1000; omega⟩
 ·simp
theorem rdG_go {W:World} {B:Nat} {a:Option Addr} {cap:Nat} {gs:List Value} {gl:List (List Ev)} (h:GO W B a gs gl) (hn:gl.length ≤ 200):RdG W (.slice a gl.length cap) gl:=by
 refine ⟨a,cap,rfl,by omega,fun hne=>?_⟩
 have hp:0 < gs.length:=by rw [h.len]; exact List.length_pos_iff.2 hne
 obtain ⟨gb,e1,e2,_⟩:=h.cells 0 gs[0] (List.getElem?_eq_getElem hp)
 refine ⟨gb,0,e1,e2,fun i es hes=>?_⟩
 have hi:i < gs.length:=by rw [h.len]; exact (List.getElem?_eq_some_iff.1 hes).1
 obtain ⟨gb',e1',_,e3⟩:=h.cells i gs[i] (List.getElem?_eq_getElem hi)
 rw [e1] at e1'
 simp only [Option.some.injEq,Addr.mk.injEq,and_true] at e1'
 subst e1'
 exact ⟨gs[i],e3,zaA (h.each i gs[i] es (List.getElem?_eq_getElem hi) hes)⟩
structure RQ (w W4 W:World) (B b7:Nat) (aa:Option Addr) (gs:List Value) (GL:List (List Ev)) (vq:Value) (LL:List Od) (rl:List Value):Prop where
 p:Below w.heap.size w W
 a:Below W4.heap.size W4 W
 g:GO W B aa gs GL
 o:OwnR Od.vs 6 B W vq LL
 x:Bx W b7 rl
 z:b7 < W.heap.size
theorem zba {w W4 W V:World} {B b7:Nat} {aa:Option Addr} {gs:List Value} {GL:List (List Ev)} {vq:Value} {LL:List Od} {rl:List Value} (h:RQ w W4 W B b7 aa gs GL vq LL rl) (hb:Below W.heap.size W V):RQ w W4 V B b7 aa gs GL vq LL rl :=
 ⟨h.p.trans (hb.mono h.p.size),h.a.trans (hb.mono h.a.size),go_below h.g hb (Nat.le_refl _),zao h.o hb (Nat.le_refl _),zD h.x hb h.z,Nat.lt_of_lt_of_le h.z hb.size⟩
theorem rs_mark {w W4 W V:World} {B b7:Nat} {aa:Option Addr} {gs:List Value} {GL:List (List Ev)} {vq:Value} {LL:List Od} {rl:List Value} {G:Option Nat} (h:RQ w W4 W B b7 aa gs GL vq LL rl) (hg:W.grownBy V G) (hG:∀ b,G = some b→W4.heap.size ≤ b∧b < B) (hw:w.heap.size ≤ W4.heap.size) (hb7:B ≤ b7):RQ w W4 V B b7 aa gs GL vq LL rl:=by
 refine ⟨h.p.trans (gr_below' hg (fun b e=>by have:=(hG b e).1; omega) h.p.size),h.a.trans (gr_below' hg (fun b e=>(hG b e).1) h.a.size),gow_grown h.g hg (fun g hg' b e e'=>?_) (fun b e gb e' e''=>?_),ownR_grown h.o hg (fun hne e=>?_),bx_blk h.x (hg.block b7 h.z (fun e=>?_)),Nat.lt_of_lt_of_le h.z hg.size⟩
 ·have h1:=(h.g.lt g hg' b e').1; have:=(hG b e).2; omega
 ·have h1:=(h.g.lo gb e').1; have:=(hG b e).2; omega
 ·obtain ⟨b,e1,e2,_⟩:=ownR_lt h.o hne
  rw [e1] at e; have:=(hG b e.symm).2; omega
 ·have:=(hG b7 e.symm).2; omega
theorem rs_marks {w W4 W V:World} {B b7:Nat} {aa:Option Addr} {gs:List Value} {GL GL':List (List Ev)} {vq:Value} {LL LL':List Od} {rl:List Value} (h:RQ w W4 W B b7 aa gs GL vq LL rl) (hg:GO V B aa gs GL') (ho:OwnR Od.vs 6 B V vq LL') (hk:KG (vq :: gs) W V) (hb:∀ g ∈ vq :: gs,∀ b,g.ownBlock = some b→B ≤ b∧b < b7) (hw:w.heap.size ≤ W4.heap.size) (hB:W4.heap.size ≤ B):RQ w W4 V B b7 aa gs GL' vq LL' rl:=by
 have hbl:∀ C,C ≤ B→C ≤ W.heap.size→Below C W V:=fun C hC hs=>⟨hk.os,hk.tape,hk.output,hk.size,fun k hk'=>hk.block k (by omega) (fun g hg' e=>by have:=(hb g hg' k e).1; omega)⟩
 exact ⟨h.p.trans (hbl _ (by omega) h.p.size),h.a.trans (hbl _ hB h.a.size),hg,ho,bx_blk h.x (hk.block b7 h.z (fun g hg' e=>by have:=(hb g hg' b7 e).2; omega)),Nat.lt_of_lt_of_le h.z hk.size⟩
theorem gra_grs {W:World} {B:Nat} {gv:Value} {gl:List (List Ev)} (h:GRa W B gv gl):GRs W B gv gl:=by
 obtain ⟨gs,h1,h2,h3,_⟩:=h.ex
 exact ⟨gs,h1,h2,h3⟩
theorem markRunL {B:Nat} (aa:Option Addr) (ca:Nat) (gs:List Value) (gl:List (List Ev)) (n:Int) (v:Value) (l:List Od) (t:Tot) (w:World) (h:GO w B aa gs gl) (ho:OwnR Od.vs 6 B w v l) (hn:gl.length ≤ 200) (he:∀ es ∈ gl,es.length ≤ 100) (hl:l.length ≤ 1000)
  (h1:∀ g ∈ gs,∀ b,g.ownBlock = some b→v.ownBlock ≠ some b) (h2:∀ gb,aa = some ⟨gb,0,none⟩→v.ownBlock ≠ some gb) :
  Calls Tryz.prog 25 #[.agg #[.slice aa gl.length ca,.int .i64 n,v,.int .i64 t.gr,.int .i64 t.ac,.int .i64 t.rf,.int .i64 t.tr,.int .i64 t.vo,.int .i64 t.no,.int .i64 t.li,.int .i64 t.le],.int .i64 1] w fun e w'=>e = .returned (.int .i64 ((1 + 14 * evN gl + 6 * l.length:Nat):Int))∧GO w' B aa gs (mgL 1 gl)∧OwnR Od.vs 6 B w' v (zaz (1 + 14 * evN gl) l.length)∧KG (v :: gs) w w' :=
 h.len ▸ markRun_any aa ca gs gl n v l t w h ho hn he hl h1 h2
theorem heldRunL {B:Nat} (aa:Option Addr) (ca:Nat) (gs:List Value) (gl:List (List Ev)) (n:Int) (v:Value) (l:List Od) (t:Tot) (w:World) (h:GO w B aa gs (mgL 1 gl)) (ho:OwnR Od.vs 6 B w v (zaz (1 + 14 * evN gl) l.length)) (hn:gl.length ≤ 200) (he:∀ es ∈ gl,es.length ≤ 100) (hl:l.length ≤ 1000) :
  Calls Tryz.prog 26 #[.agg #[.slice aa gl.length ca,.int .i64 n,v,.int .i64 t.gr,.int .i64 t.ac,.int .i64 t.rf,.int .i64 t.tr,.int .i64 t.vo,.int .i64 t.no,.int .i64 t.li,.int .i64 t.le],.int .i64 1] w fun e w'=>e = .returned (.int .i64 ((1 + 14 * evN gl + 6 * l.length:Nat):Int))∧Below w.heap.size w w':=by
 have hgl:gs.length = gl.length:=by rw [h.len,zcp]
 exact hgl ▸ heldRun_any aa ca gs gl n v l t w h ho hn he hl
theorem grs_rd' {W:World} {B:Nat} {gv:Value} {gl:List (List Ev)} (h:GRs W B gv gl) (hn:gl.length ≤ 1000) (hm:∀ es ∈ gl,es.length ≤ 1000):RdG W gv gl:=by
 obtain ⟨gs,h1,h2,h3⟩:=h.ex
 exact grs_rd h1 h2 h3 hn hm
theorem ap_of {W:World} {B ca:Nat} {aa:Option Addr} {gs:List Value} {vq:Value} {l:List Od} (hrow:GRow W B (.slice aa gs.length ca) gs) (hev:∀ g ∈ gs,∃ es,ERow W B g es) (hor:ORow W B vq l):(∀ g ∈ gs,∀ b,g.ownBlock = some b→vq.ownBlock ≠ some b)∧∀ gb,aa = some ⟨gb,0,none⟩→vq.ownBlock ≠ some gb:=by
 refine ⟨fun g hg b e e'=>?_,fun gb e e'=>?_⟩
 ·obtain ⟨es,he⟩:=hev g hg
  rcases zz he hor (by decide) with h | h
  ·rw [e] at h; cases h
  ·exact h (by rw [e,e'])
 ·rcases zz hrow hor (by decide) with h | h
  ·rw [e] at h; simp [Value.ownBlock] at h
  ·exact h (by rw [e,e']; rfl)
theorem orow_lt {W:World} {B:Nat} {v:Value} {l:List Od} (h:ORow W B v l):∀ b,v.ownBlock = some b→B ≤ b∧b < W.heap.size:=fun b e=>h.lt b e
set_option maxRecDepth 100000 in
set_option maxHeartbeats 6400000 in
theorem exactRun (v:Value) (cs:List Cm) (w:World) (hr:RdR Cm.vs 8 w v cs) (hl:cs.length ≤ 1048576) (hg:∀ c ∈ cs,c.g.size ≤ maxLen) :
  Calls Tryz.prog 4 #[v] w fun e w'=>e = .returned (.bool true)∧Below w.heap.size w w':=by
 have HR:=hide hr
 have HG:=hide hg
 obtain ⟨a,cap,rfl,_,_⟩:=hr
 have HS:=hide (fun v W h=>specRunScript_any v cs W h hg)
 have HI:=hide (fun v W h=>implRunScript_any v cs W h hg)
 obtain ⟨hf1,hf2,hf3⟩:=rsF_few cs
 clear hg
 generalize rsF cs = R at HS HI hf1 hf2 hf3
 generalize cntF cs.length = cc at HS HI
 obtain ⟨n,l,gl,t⟩:=R
 simp only at HS HI hf1 hf2 hf3
 have HF2:=hide hf2
 clear hf2
 go_enter Tryz.func4,Tryz.ntmps4
 go_wp2_with fail
 refine (szCmdS_any _ cs _ (za HR) hl (za HG)).mono ?_
 rintro e w1 ⟨y,rfl,hy0,hy1,hb⟩
 have B1:=hide hb
 clear hb
 by_cases hy:y < 0
 ·go_wp2_with fail
  go_ret
  exact ⟨rfl,za B1⟩
 go_wp2_with fail
 refine (zch _ cs w1 (zi (za HR) (za B1) (Nat.le_refl _))).mono ?_
 rintro e w2 ⟨v1,rfl,ho,hb⟩
 have O1:=hide (zaA ho)
 have B2:=hide ((za B1).trans (hb.mono (za B1).size))
 clear ho hb
 go_wp2_with fail
 refine (za HS v1 w2 (za O1)).mono ?_
 rintro e w3 ⟨gv0,vq0,rfl,hgr,hor,hb⟩
 have B3:=hide ((za B2).trans (hb.mono (za B2).size))
 have HG0:=hide (grs_rd' hgr (by omega) (fun es he=>by have:=za HF2 es he; omega))
 have HQ0:=hide (zaA (zaG Od.len (by omega) hor))
 clear hgr hor hb
 obtain ⟨a0,k0,rfl⟩:∃ a k,gv0 = .slice a gl.length k:=by obtain ⟨a,k,h,_⟩:=za HG0; exact ⟨a,k,h⟩
 obtain ⟨q0,d0,rfl⟩:∃ a k,vq0 = .slice a l.length k:=by obtain ⟨a,k,h,_⟩:=za HQ0; exact ⟨a,k,h⟩
 have BA:=hide ((Below.refl w3.heap.size w3).alloc (Nat.le_refl _) (Obj.cells #[.slice a0 gl.length k0,.int .i64 n,.slice q0 l.length d0,.int .i64 t.gr,.int .i64 t.ac,.int .i64 t.rf,.int .i64 t.tr,.int .i64 t.vo,.int .i64 t.no,.int .i64 t.li,.int .i64 t.le] 50))
 have HX0:Hid (Bx (w3.alloc (Obj.cells #[.slice a0 gl.length k0,.int .i64 n,.slice q0 l.length d0,.int .i64 t.gr,.int .i64 t.ac,.int .i64 t.rf,.int .i64 t.tr,.int .i64 t.vo,.int .i64 t.no,.int .i64 t.li,.int .i64 t.le] 50)) w3.heap.size [.slice a0 gl.length k0,.int .i64 n,.slice q0 l.length d0,.int .i64 t.gr,.int .i64 t.ac,.int .i64 t.rf,.int .i64 t.tr,.int .i64 t.vo,.int .i64 t.no,.int .i64 t.li,.int .i64 t.le]):=bx_made w3 [.slice a0 gl.length k0,.int .i64 n,.slice q0 l.length d0,.int .i64 t.gr,.int .i64 t.ac,.int .i64 t.rf,.int .i64 t.tr,.int .i64 t.vo,.int .i64 t.no,.int .i64 t.li,.int .i64 t.le] 50
 have HZ0:Hid (w3.heap.size < (w3.alloc (Obj.cells #[.slice a0 gl.length k0,.int .i64 n,.slice q0 l.length d0,.int .i64 t.gr,.int .i64 t.ac,.int .i64 t.rf,.int .i64 t.tr,.int .i64 t.vo,.int .i64 t.no,.int .i64 t.li,.int .i64 t.le] 50)).heap.size):=by show _ < _; simp
 go_wp2_with fail
 generalize (w3.alloc (Obj.cells #[.slice a0 gl.length k0,.int .i64 n,.slice q0 l.length d0,.int .i64 t.gr,.int .i64 t.ac,.int .i64 t.rf,.int .i64 t.tr,.int .i64 t.vo,.int .i64 t.no,.int .i64 t.li,.int .i64 t.le] 50)) = W4 at BA HX0 HZ0 ⊢
 have B4:=hide ((za B3).trans ((za BA).mono (za B3).size))
 have HG4:=hide (zbt (za HG0) (za BA) (Nat.le_refl _))
 have HQ4:=hide (zi (za HQ0) (za BA) (Nat.le_refl _))
 generalize w3.heap.size = b4 at HX0 HZ0 ⊢
 clear BA B3 B2 B1 HG0 HQ0 O1
 refine (zch _ cs W4 (zi (za HR) (za B4) (Nat.le_refl _))).mono ?_
 rintro e w5 ⟨x0,rfl,ho,hb⟩
 have OX:=hide ho
 have HA5:=hide hb
 obtain ⟨xa,xc,rfl,-,-⟩:=ho
 clear hb
 go_wp2_with fail
 refine (za HI _ w5 (zaA (za OX))).mono ?_
 rintro e w6 ⟨gv,vq,rfl,hgr,hor,hb⟩
 have HA6:=hide ((za HA5).trans (hb.mono (za HA5).size))
 have OX6:=hide (zao (za OX) hb (Nat.le_refl _))
 have HOR:=hide hor
 have HGA:=hide hgr
 obtain ⟨aa,ca,gs,rfl,hgo,hrow,hev⟩:=go_of hgr (fun es he=>by have:=za HF2 es he; omega)
 have hgl:=hgo.len
 have HGO:=hide hgo
 have HOW:=hide (zaG Od.len (show l.length ≤ 1073741824 by omega) hor)
 obtain ⟨qa,da,rfl⟩:∃ a k,vq = .slice a l.length k:=by obtain ⟨a,k,h,_⟩:=za HOW; exact ⟨a,k,h⟩
 have HAP:Hid ((∀ g ∈ gs,∀ b,g.ownBlock = some b→(Value.slice qa l.length da).ownBlock ≠ some b)∧∀ gb,aa = some ⟨gb,0,none⟩→(Value.slice qa l.length da).ownBlock ≠ some gb):=ap_of hrow hev hor
 have HLT:Hid (∀ g ∈ Value.slice qa l.length da :: gs,∀ b,g.ownBlock = some b→w5.heap.size ≤ b∧b < w6.heap.size):=fun g hg b e=>by
  rcases List.mem_cons.1 hg with rfl | h
  ·exact orow_lt (za HOR) b e
  ·exact hgo.lt g h b e
 rw [hgl]
 have hB7:Hid (W4.heap.size ≤ w5.heap.size∧w5.heap.size ≤ w6.heap.size):=⟨(za HA5).size,hb.size⟩
 clear hgr hor hgo hb HGA HOR hrow hev
 have BA:=hide ((Below.refl w6.heap.size w6).alloc (Nat.le_refl _) (Obj.cells #[.slice aa gl.length ca,.int .i64 n,.slice qa l.length da,.int .i64 t.gr,.int .i64 t.ac,.int .i64 t.rf,.int .i64 t.tr,.int .i64 t.vo,.int .i64 t.no,.int .i64 t.li,.int .i64 t.le] 50))
 have HXG:Hid (Bx (w6.alloc (Obj.cells #[.slice aa gl.length ca,.int .i64 n,.slice qa l.length da,.int .i64 t.gr,.int .i64 t.ac,.int .i64 t.rf,.int .i64 t.tr,.int .i64 t.vo,.int .i64 t.no,.int .i64 t.li,.int .i64 t.le] 50)) w6.heap.size [.slice aa gl.length ca,.int .i64 n,.slice qa l.length da,.int .i64 t.gr,.int .i64 t.ac,.int .i64 t.rf,.int .i64 t.tr,.int .i64 t.vo,.int .i64 t.no,.int .i64 t.li,.int .i64 t.le]):=bx_made w6 [.slice aa gl.length ca,.int .i64 n,.slice qa l.length da,.int .i64 t.gr,.int .i64 t.ac,.int .i64 t.rf,.int .i64 t.tr,.int .i64 t.vo,.int .i64 t.no,.int .i64 t.li,.int .i64 t.le] 50
 have HZG:Hid (w6.heap.size < (w6.alloc (Obj.cells #[.slice aa gl.length ca,.int .i64 n,.slice qa l.length da,.int .i64 t.gr,.int .i64 t.ac,.int .i64 t.rf,.int .i64 t.tr,.int .i64 t.vo,.int .i64 t.no,.int .i64 t.li,.int .i64 t.le] 50)).heap.size):=by show _ < _; simp
 have HRS:Hid (RQ w W4 (w6.alloc (Obj.cells #[.slice aa gl.length ca,.int .i64 n,.slice qa l.length da,.int .i64 t.gr,.int .i64 t.ac,.int .i64 t.rf,.int .i64 t.tr,.int .i64 t.vo,.int .i64 t.no,.int .i64 t.li,.int .i64 t.le] 50)) w5.heap.size w6.heap.size aa gs gl (.slice qa l.length da) l [.slice aa gl.length ca,.int .i64 n,.slice qa l.length da,.int .i64 t.gr,.int .i64 t.ac,.int .i64 t.rf,.int .i64 t.tr,.int .i64 t.vo,.int .i64 t.no,.int .i64 t.li,.int .i64 t.le]):=⟨((za B4).trans ((za HA6).mono (za B4).size)).trans ((za BA).mono (Nat.le_trans (za B4).size (za HA6).size)),(za HA6).trans ((za BA).mono (za HA6).size),go_below (za HGO) (za BA) (Nat.le_refl _),zao (za HOW) (za BA) (Nat.le_refl _),za HXG,za HZG⟩
 have OX7:=hide (zao (za OX6) (za BA) (Nat.le_refl _))
 have HXL:Hid (∀ b,(Value.slice xa cs.length xc).ownBlock = some b→cs ≠ []→b < w5.heap.size):=fun b e hne=>by
  obtain ⟨b',e1,_,e3⟩:=ownR_lt (za OX) hne
  rw [e] at e1; have:=Option.some.inj e1; omega
 have HW0:Hid (w.heap.size ≤ W4.heap.size):=(za B4).size
 have HA7:=hide ((za HA6).trans ((za BA).mono (za HA6).size))
 have z0:True:=trivial
 have p0:(w6.alloc (Obj.cells #[.slice aa gl.length ca,.int .i64 n,.slice qa l.length da,.int .i64 t.gr,.int .i64 t.ac,.int .i64 t.rf,.int .i64 t.tr,.int .i64 t.vo,.int .i64 t.no,.int .i64 t.li,.int .i64 t.le] 50)).cell? ⟨b4,0,none⟩ = some (.slice a0 gl.length k0):=zh (zD (za HX0) (za HA7) (za HZ0)) 0 rfl
 have p1:(w6.alloc (Obj.cells #[.slice aa gl.length ca,.int .i64 n,.slice qa l.length da,.int .i64 t.gr,.int .i64 t.ac,.int .i64 t.rf,.int .i64 t.tr,.int .i64 t.vo,.int .i64 t.no,.int .i64 t.li,.int .i64 t.le] 50)).cell? ⟨b4,1,none⟩ = some (.int .i64 n):=zh (zD (za HX0) (za HA7) (za HZ0)) 1 rfl
 have p2:(w6.alloc (Obj.cells #[.slice aa gl.length ca,.int .i64 n,.slice qa l.length da,.int .i64 t.gr,.int .i64 t.ac,.int .i64 t.rf,.int .i64 t.tr,.int .i64 t.vo,.int .i64 t.no,.int .i64 t.li,.int .i64 t.le] 50)).cell? ⟨b4,2,none⟩ = some (.slice q0 l.length d0):=zh (zD (za HX0) (za HA7) (za HZ0)) 2 rfl
 have p3:(w6.alloc (Obj.cells #[.slice aa gl.length ca,.int .i64 n,.slice qa l.length da,.int .i64 t.gr,.int .i64 t.ac,.int .i64 t.rf,.int .i64 t.tr,.int .i64 t.vo,.int .i64 t.no,.int .i64 t.li,.int .i64 t.le] 50)).cell? ⟨b4,3,none⟩ = some (.int .i64 t.gr):=zh (zD (za HX0) (za HA7) (za HZ0)) 3 rfl
 have p4:(w6.alloc (Obj.cells #[.slice aa gl.length ca,.int .i64 n,.slice qa l.length da,.int .i64 t.gr,.int .i64 t.ac,.int .i64 t.rf,.int .i64 t.tr,.int .i64 t.vo,.int .i64 t.no,.int .i64 t.li,.int .i64 t.le] 50)).cell? ⟨b4,4,none⟩ = some (.int .i64 t.ac):=zh (zD (za HX0) (za HA7) (za HZ0)) 4 rfl
 have p5:(w6.alloc (Obj.cells #[.slice aa gl.length ca,.int .i64 n,.slice qa l.length da,.int .i64 t.gr,.int .i64 t.ac,.int .i64 t.rf,.int .i64 t.tr,.int .i64 t.vo,.int .i64 t.no,.int .i64 t.li,.int .i64 t.le] 50)).cell? ⟨b4,5,none⟩ = some (.int .i64 t.rf):=zh (zD (za HX0) (za HA7) (za HZ0)) 5 rfl
 have p6:(w6.alloc (Obj.cells #[.slice aa gl.length ca,.int .i64 n,.slice qa l.length da,.int .i64 t.gr,.int .i64 t.ac,.int .i64 t.rf,.int .i64 t.tr,.int .i64 t.vo,.int .i64 t.no,.int .i64 t.li,.int .i64 t.le] 50)).cell? ⟨b4,6,none⟩ = some (.int .i64 t.tr):=zh (zD (za HX0) (za HA7) (za HZ0)) 6 rfl
 have p7:(w6.alloc (Obj.cells #[.slice aa gl.length ca,.int .i64 n,.slice qa l.length da,.int .i64 t.gr,.int .i64 t.ac,.int .i64 t.rf,.int .i64 t.tr,.int .i64 t.vo,.int .i64 t.no,.int .i64 t.li,.int .i64 t.le] 50)).cell? ⟨b4,7,none⟩ = some (.int .i64 t.vo):=zh (zD (za HX0) (za HA7) (za HZ0)) 7 rfl
 have p8:(w6.alloc (Obj.cells #[.slice aa gl.length ca,.int .i64 n,.slice qa l.length da,.int .i64 t.gr,.int .i64 t.ac,.int .i64 t.rf,.int .i64 t.tr,.int .i64 t.vo,.int .i64 t.no,.int .i64 t.li,.int .i64 t.le] 50)).cell? ⟨b4,8,none⟩ = some (.int .i64 t.no):=zh (zD (za HX0) (za HA7) (za HZ0)) 8 rfl
 have p9:(w6.alloc (Obj.cells #[.slice aa gl.length ca,.int .i64 n,.slice qa l.length da,.int .i64 t.gr,.int .i64 t.ac,.int .i64 t.rf,.int .i64 t.tr,.int .i64 t.vo,.int .i64 t.no,.int .i64 t.li,.int .i64 t.le] 50)).cell? ⟨b4,9,none⟩ = some (.int .i64 t.li):=zh (zD (za HX0) (za HA7) (za HZ0)) 9 rfl
 have p10:(w6.alloc (Obj.cells #[.slice aa gl.length ca,.int .i64 n,.slice qa l.length da,.int .i64 t.gr,.int .i64 t.ac,.int .i64 t.rf,.int .i64 t.tr,.int .i64 t.vo,.int .i64 t.no,.int .i64 t.li,.int .i64 t.le] 50)).cell? ⟨b4,10,none⟩ = some (.int .i64 t.le):=zh (zD (za HX0) (za HA7) (za HZ0)) 10 rfl
 have q0:(w6.alloc (Obj.cells #[.slice aa gl.length ca,.int .i64 n,.slice qa l.length da,.int .i64 t.gr,.int .i64 t.ac,.int .i64 t.rf,.int .i64 t.tr,.int .i64 t.vo,.int .i64 t.no,.int .i64 t.li,.int .i64 t.le] 50)).cell? ⟨w6.heap.size,0,none⟩ = some (.slice aa gl.length ca):=zh (za HXG) 0 rfl
 have q1:(w6.alloc (Obj.cells #[.slice aa gl.length ca,.int .i64 n,.slice qa l.length da,.int .i64 t.gr,.int .i64 t.ac,.int .i64 t.rf,.int .i64 t.tr,.int .i64 t.vo,.int .i64 t.no,.int .i64 t.li,.int .i64 t.le] 50)).cell? ⟨w6.heap.size,1,none⟩ = some (.int .i64 n):=zh (za HXG) 1 rfl
 have q2:(w6.alloc (Obj.cells #[.slice aa gl.length ca,.int .i64 n,.slice qa l.length da,.int .i64 t.gr,.int .i64 t.ac,.int .i64 t.rf,.int .i64 t.tr,.int .i64 t.vo,.int .i64 t.no,.int .i64 t.li,.int .i64 t.le] 50)).cell? ⟨w6.heap.size,2,none⟩ = some (.slice qa l.length da):=zh (za HXG) 2 rfl
 have q3:(w6.alloc (Obj.cells #[.slice aa gl.length ca,.int .i64 n,.slice qa l.length da,.int .i64 t.gr,.int .i64 t.ac,.int .i64 t.rf,.int .i64 t.tr,.int .i64 t.vo,.int .i64 t.no,.int .i64 t.li,.int .i64 t.le] 50)).cell? ⟨w6.heap.size,3,none⟩ = some (.int .i64 t.gr):=zh (za HXG) 3 rfl
 have q4:(w6.alloc (Obj.cells #[.slice aa gl.length ca,.int .i64 n,.slice qa l.length da,.int .i64 t.gr,.int .i64 t.ac,.int .i64 t.rf,.int .i64 t.tr,.int .i64 t.vo,.int .i64 t.no,.int .i64 t.li,.int .i64 t.le] 50)).cell? ⟨w6.heap.size,4,none⟩ = some (.int .i64 t.ac):=zh (za HXG) 4 rfl
 have q5:(w6.alloc (Obj.cells #[.slice aa gl.length ca,.int .i64 n,.slice qa l.length da,.int .i64 t.gr,.int .i64 t.ac,.int .i64 t.rf,.int .i64 t.tr,.int .i64 t.vo,.int .i64 t.no,.int .i64 t.li,.int .i64 t.le] 50)).cell? ⟨w6.heap.size,5,none⟩ = some (.int .i64 t.rf):=zh (za HXG) 5 rfl
 have q6:(w6.alloc (Obj.cells #[.slice aa gl.length ca,.int .i64 n,.slice qa l.length da,.int .i64 t.gr,.int .i64 t.ac,.int .i64 t.rf,.int .i64 t.tr,.int .i64 t.vo,.int .i64 t.no,.int .i64 t.li,.int .i64 t.le] 50)).cell? ⟨w6.heap.size,6,none⟩ = some (.int .i64 t.tr):=zh (za HXG) 6 rfl
 have q7:(w6.alloc (Obj.cells #[.slice aa gl.length ca,.int .i64 n,.slice qa l.length da,.int .i64 t.gr,.int .i64 t.ac,.int .i64 t.rf,.int .i64 t.tr,.int .i64 t.vo,.int .i64 t.no,.int .i64 t.li,.int .i64 t.le] 50)).cell? ⟨w6.heap.size,7,none⟩ = some (.int .i64 t.vo):=zh (za HXG) 7 rfl
 have q8:(w6.alloc (Obj.cells #[.slice aa gl.length ca,.int .i64 n,.slice qa l.length da,.int .i64 t.gr,.int .i64 t.ac,.int .i64 t.rf,.int .i64 t.tr,.int .i64 t.vo,.int .i64 t.no,.int .i64 t.li,.int .i64 t.le] 50)).cell? ⟨w6.heap.size,8,none⟩ = some (.int .i64 t.no):=zh (za HXG) 8 rfl
 have q9:(w6.alloc (Obj.cells #[.slice aa gl.length ca,.int .i64 n,.slice qa l.length da,.int .i64 t.gr,.int .i64 t.ac,.int .i64 t.rf,.int .i64 t.tr,.int .i64 t.vo,.int .i64 t.no,.int .i64 t.li,.int .i64 t.le] 50)).cell? ⟨w6.heap.size,9,none⟩ = some (.int .i64 t.li):=zh (za HXG) 9 rfl
 have q10:(w6.alloc (Obj.cells #[.slice aa gl.length ca,.int .i64 n,.slice qa l.length da,.int .i64 t.gr,.int .i64 t.ac,.int .i64 t.rf,.int .i64 t.tr,.int .i64 t.vo,.int .i64 t.no,.int .i64 t.li,.int .i64 t.le] 50)).cell? ⟨w6.heap.size,10,none⟩ = some (.int .i64 t.le):=zh (za HXG) 10 rfl
 go_wp2_with fail
 generalize (w6.alloc (Obj.cells #[.slice aa gl.length ca,.int .i64 n,.slice qa l.length da,.int .i64 t.gr,.int .i64 t.ac,.int .i64 t.rf,.int .i64 t.tr,.int .i64 t.vo,.int .i64 t.no,.int .i64 t.li,.int .i64 t.le] 50)) = W7 at HRS OX7 ⊢
 generalize hbb:w6.heap.size = b7 at HRS HLT hB7 ⊢
 clear hbb HZG HXG BA HGO HOW HA6 OX6 HA5 OX HA7 z0 p0 p1 p2 p3 p4 p5 p6 p7 p8 p9 p10 q0 q1 q2 q3 q4 q5 q6 q7 q8 q9 q10
 refine (eqRun_same _ _ _ _ n gl l t W7 (rdG_go (za HRS).g (by omega)) (zbt (za HG4) (za HRS).a (Nat.le_refl _)) (zaA (za HRS).o) (zi (za HQ4) (za HRS).a (Nat.le_refl _))).mono ?_
 rintro e w8 ⟨rfl,hb⟩
 have RS8:=hide (zba (za HRS) hb)
 have OX8:=hide (zao (za OX7) hb (Nat.le_refl _))
 clear hb HRS OX7
 go_wp2_with fail
 refine (zch _ cs w8 (zi (za HR) (za RS8).p (Nat.le_refl _))).mono ?_
 rintro e w9 ⟨v9,rfl,ho,hb⟩
 have RS9:=hide (zba (za RS8) hb)
 have OX9:=hide (zao (za OX8) hb (Nat.le_refl _))
 have O9:=hide (zaA ho)
 clear hb RS8 OX8 ho
 go_wp2_with fail
 refine (eqCmdS_same _ v9 cs w9 (zaA (za OX9)) (za O9)).mono ?_
 rintro e w10 ⟨rfl,hb⟩
 have RS10:=hide (zba (za RS9) hb)
 have OX10:=hide (zao (za OX9) hb (Nat.le_refl _))
 clear hb RS9 OX9 O9
 have hneg:¬ (((1 + 8 * cs.length:Nat):Int) < 0):=by omega
 go_wp2_with fail
 refine (markC_own _ cs w10 (za OX10) (by omega)).mono ?_
 rintro e w11 ⟨rfl,ho,G,hgr,hG⟩
 have RS11:=hide (rs_mark (za RS10) hgr (fun b e=>⟨(hG b e).2.1,za HXL b (hG b e).1 (hG b e).2.2⟩) (za HW0) (za hB7).2)
 clear ho hgr hG RS10 OX10
 generalize hnk:((1 + 8 * cs.length:Nat):Int) = nk at hneg ⊢
 clear hnk
 have p0:w11.cell? ⟨b4,0,none⟩ = some (.slice a0 gl.length k0):=zh (zD (za HX0) (za RS11).a (za HZ0)) 0 rfl
 have p1:w11.cell? ⟨b4,1,none⟩ = some (.int .i64 n):=zh (zD (za HX0) (za RS11).a (za HZ0)) 1 rfl
 have p2:w11.cell? ⟨b4,2,none⟩ = some (.slice q0 l.length d0):=zh (zD (za HX0) (za RS11).a (za HZ0)) 2 rfl
 have p3:w11.cell? ⟨b4,3,none⟩ = some (.int .i64 t.gr):=zh (zD (za HX0) (za RS11).a (za HZ0)) 3 rfl
 have p4:w11.cell? ⟨b4,4,none⟩ = some (.int .i64 t.ac):=zh (zD (za HX0) (za RS11).a (za HZ0)) 4 rfl
 have p5:w11.cell? ⟨b4,5,none⟩ = some (.int .i64 t.rf):=zh (zD (za HX0) (za RS11).a (za HZ0)) 5 rfl
 have p6:w11.cell? ⟨b4,6,none⟩ = some (.int .i64 t.tr):=zh (zD (za HX0) (za RS11).a (za HZ0)) 6 rfl
 have p7:w11.cell? ⟨b4,7,none⟩ = some (.int .i64 t.vo):=zh (zD (za HX0) (za RS11).a (za HZ0)) 7 rfl
 have p8:w11.cell? ⟨b4,8,none⟩ = some (.int .i64 t.no):=zh (zD (za HX0) (za RS11).a (za HZ0)) 8 rfl
 have p9:w11.cell? ⟨b4,9,none⟩ = some (.int .i64 t.li):=zh (zD (za HX0) (za RS11).a (za HZ0)) 9 rfl
 have p10:w11.cell? ⟨b4,10,none⟩ = some (.int .i64 t.le):=zh (zD (za HX0) (za RS11).a (za HZ0)) 10 rfl
 have q0:w11.cell? ⟨b7,0,none⟩ = some (.slice aa gl.length ca):=zh (za RS11).x 0 rfl
 have q1:w11.cell? ⟨b7,1,none⟩ = some (.int .i64 n):=zh (za RS11).x 1 rfl
 have q2:w11.cell? ⟨b7,2,none⟩ = some (.slice qa l.length da):=zh (za RS11).x 2 rfl
 have q3:w11.cell? ⟨b7,3,none⟩ = some (.int .i64 t.gr):=zh (za RS11).x 3 rfl
 have q4:w11.cell? ⟨b7,4,none⟩ = some (.int .i64 t.ac):=zh (za RS11).x 4 rfl
 have q5:w11.cell? ⟨b7,5,none⟩ = some (.int .i64 t.rf):=zh (za RS11).x 5 rfl
 have q6:w11.cell? ⟨b7,6,none⟩ = some (.int .i64 t.tr):=zh (za RS11).x 6 rfl
 have q7:w11.cell? ⟨b7,7,none⟩ = some (.int .i64 t.vo):=zh (za RS11).x 7 rfl
 have q8:w11.cell? ⟨b7,8,none⟩ = some (.int .i64 t.no):=zh (za RS11).x 8 rfl
 have q9:w11.cell? ⟨b7,9,none⟩ = some (.int .i64 t.li):=zh (za RS11).x 9 rfl
 have q10:w11.cell? ⟨b7,10,none⟩ = some (.int .i64 t.le):=zh (za RS11).x 10 rfl
 go_wp2_with fail
 refine (eqRun_same _ _ _ _ n gl l t w11 (rdG_go (za RS11).g (by omega)) (zbt (za HG4) (za RS11).a (Nat.le_refl _)) (zaA (za RS11).o) (zi (za HQ4) (za RS11).a (Nat.le_refl _))).mono ?_
 rintro e w12 ⟨rfl,hb⟩
 have RS12:=hide (zba (za RS11) hb)
 clear hb RS11 p0 p1 p2 p3 p4 p5 p6 p7 p8 p9 p10 q0 q1 q2 q3 q4 q5 q6 q7 q8 q9 q10
 have q0:w12.cell? ⟨b7,0,none⟩ = some (.slice aa gl.length ca):=zh (za RS12).x 0 rfl
 have q1:w12.cell? ⟨b7,1,none⟩ = some (.int .i64 n):=zh (za RS12).x 1 rfl
 have q2:w12.cell? ⟨b7,2,none⟩ = some (.slice qa l.length da):=zh (za RS12).x 2 rfl
 have q3:w12.cell? ⟨b7,3,none⟩ = some (.int .i64 t.gr):=zh (za RS12).x 3 rfl
 have q4:w12.cell? ⟨b7,4,none⟩ = some (.int .i64 t.ac):=zh (za RS12).x 4 rfl
 have q5:w12.cell? ⟨b7,5,none⟩ = some (.int .i64 t.rf):=zh (za RS12).x 5 rfl
 have q6:w12.cell? ⟨b7,6,none⟩ = some (.int .i64 t.tr):=zh (za RS12).x 6 rfl
 have q7:w12.cell? ⟨b7,7,none⟩ = some (.int .i64 t.vo):=zh (za RS12).x 7 rfl
 have q8:w12.cell? ⟨b7,8,none⟩ = some (.int .i64 t.no):=zh (za RS12).x 8 rfl
 have q9:w12.cell? ⟨b7,9,none⟩ = some (.int .i64 t.li):=zh (za RS12).x 9 rfl
 have q10:w12.cell? ⟨b7,10,none⟩ = some (.int .i64 t.le):=zh (za RS12).x 10 rfl
 go_wp2_with fail
 refine (markRunL aa ca gs gl n _ l t w12 (za RS12).g (za RS12).o hf1 (za HF2) hf3 (za HAP).1 (za HAP).2).mono ?_
 rintro e w13 ⟨rfl,hg13,ho13,hk13⟩
 have RS13:=hide (rs_marks (za RS12) hg13 ho13 hk13 (za HLT) (za HW0) (za hB7).1)
 clear hg13 ho13 hk13 RS12 q0 q1 q2 q3 q4 q5 q6 q7 q8 q9 q10
 generalize hmm:((1 + 14 * evN gl + 6 * l.length:Nat):Int) = mm
 have hmm0:¬ mm < 0:=by omega
 have HMM:=hide hmm
 clear hmm
 have q0:w13.cell? ⟨b7,0,none⟩ = some (.slice aa gl.length ca):=zh (za RS13).x 0 rfl
 have q1:w13.cell? ⟨b7,1,none⟩ = some (.int .i64 n):=zh (za RS13).x 1 rfl
 have q2:w13.cell? ⟨b7,2,none⟩ = some (.slice qa l.length da):=zh (za RS13).x 2 rfl
 have q3:w13.cell? ⟨b7,3,none⟩ = some (.int .i64 t.gr):=zh (za RS13).x 3 rfl
 have q4:w13.cell? ⟨b7,4,none⟩ = some (.int .i64 t.ac):=zh (za RS13).x 4 rfl
 have q5:w13.cell? ⟨b7,5,none⟩ = some (.int .i64 t.rf):=zh (za RS13).x 5 rfl
 have q6:w13.cell? ⟨b7,6,none⟩ = some (.int .i64 t.tr):=zh (za RS13).x 6 rfl
 have q7:w13.cell? ⟨b7,7,none⟩ = some (.int .i64 t.vo):=zh (za RS13).x 7 rfl
 have q8:w13.cell? ⟨b7,8,none⟩ = some (.int .i64 t.no):=zh (za RS13).x 8 rfl
 have q9:w13.cell? ⟨b7,9,none⟩ = some (.int .i64 t.li):=zh (za RS13).x 9 rfl
 have q10:w13.cell? ⟨b7,10,none⟩ = some (.int .i64 t.le):=zh (za RS13).x 10 rfl
 go_wp2_with fail
 refine (heldRunL aa ca gs gl n _ l t w13 (za RS13).g (za RS13).o hf1 (za HF2) hf3).mono ?_
 rw [za HMM]
 rintro e w14 ⟨rfl,hb⟩
 have RS14:=hide (zba (za RS13) hb)
 clear hb RS13 q0 q1 q2 q3 q4 q5 q6 q7 q8 q9 q10
 go_wp2_with fail
 refine (zch _ cs w14 (zi (za HR) (za RS14).p (Nat.le_refl _))).mono ?_
 rintro e w15 ⟨v15,rfl,ho,hb⟩
 have RS15:=hide (zba (za RS14) hb)
 have O15:=hide (zaA ho)
 clear hb RS14 ho
 go_wp2_with fail
 refine (za HI v15 w15 (za O15)).mono ?_
 rintro e w16 ⟨gvh,vqh,rfl,hgr,hor,hb⟩
 have RS16:=hide (zba (za RS15) hb)
 have HGH:=hide (grs_rd' (gra_grs hgr) (by omega) (fun es he=>by have:=za HF2 es he; omega))
 have HQH:=hide (zaA (zaG Od.len (show l.length ≤ 1073741824 by omega) hor))
 clear hgr hor hb RS15 O15
 obtain ⟨ah,ch,rfl⟩:∃ a k,gvh = .slice a gl.length k:=by obtain ⟨a,k,h,_⟩:=za HGH; exact ⟨a,k,h⟩
 obtain ⟨qh,dh,rfl⟩:∃ a k,vqh = .slice a l.length k:=by obtain ⟨a,k,h,_⟩:=za HQH; exact ⟨a,k,h⟩
 have BA:=hide ((Below.refl w16.heap.size w16).alloc (Nat.le_refl _) (Obj.cells #[.slice ah gl.length ch,.int .i64 n,.slice qh l.length dh,.int .i64 t.gr,.int .i64 t.ac,.int .i64 t.rf,.int .i64 t.tr,.int .i64 t.vo,.int .i64 t.no,.int .i64 t.li,.int .i64 t.le] 50))
 have RS17:=hide (zba (za RS16) (za BA))
 have HGH7:=hide (zbt (za HGH) (za BA) (Nat.le_refl _))
 have HQH7:=hide (zi (za HQH) (za BA) (Nat.le_refl _))
 have p0:(w16.alloc (Obj.cells #[.slice ah gl.length ch,.int .i64 n,.slice qh l.length dh,.int .i64 t.gr,.int .i64 t.ac,.int .i64 t.rf,.int .i64 t.tr,.int .i64 t.vo,.int .i64 t.no,.int .i64 t.li,.int .i64 t.le] 50)).cell? ⟨b4,0,none⟩ = some (.slice a0 gl.length k0):=zh (zD (za HX0) (za RS17).a (za HZ0)) 0 rfl
 have p1:(w16.alloc (Obj.cells #[.slice ah gl.length ch,.int .i64 n,.slice qh l.length dh,.int .i64 t.gr,.int .i64 t.ac,.int .i64 t.rf,.int .i64 t.tr,.int .i64 t.vo,.int .i64 t.no,.int .i64 t.li,.int .i64 t.le] 50)).cell? ⟨b4,1,none⟩ = some (.int .i64 n):=zh (zD (za HX0) (za RS17).a (za HZ0)) 1 rfl
 have p2:(w16.alloc (Obj.cells #[.slice ah gl.length ch,.int .i64 n,.slice qh l.length dh,.int .i64 t.gr,.int .i64 t.ac,.int .i64 t.rf,.int .i64 t.tr,.int .i64 t.vo,.int .i64 t.no,.int .i64 t.li,.int .i64 t.le] 50)).cell? ⟨b4,2,none⟩ = some (.slice q0 l.length d0):=zh (zD (za HX0) (za RS17).a (za HZ0)) 2 rfl
 have p3:(w16.alloc (Obj.cells #[.slice ah gl.length ch,.int .i64 n,.slice qh l.length dh,.int .i64 t.gr,.int .i64 t.ac,.int .i64 t.rf,.int .i64 t.tr,.int .i64 t.vo,.int .i64 t.no,.int .i64 t.li,.int .i64 t.le] 50)).cell? ⟨b4,3,none⟩ = some (.int .i64 t.gr):=zh (zD (za HX0) (za RS17).a (za HZ0)) 3 rfl
 have p4:(w16.alloc (Obj.cells #[.slice ah gl.length ch,.int .i64 n,.slice qh l.length dh,.int .i64 t.gr,.int .i64 t.ac,.int .i64 t.rf,.int .i64 t.tr,.int .i64 t.vo,.int .i64 t.no,.int .i64 t.li,.int .i64 t.le] 50)).cell? ⟨b4,4,none⟩ = some (.int .i64 t.ac):=zh (zD (za HX0) (za RS17).a (za HZ0)) 4 rfl
 have p5:(w16.alloc (Obj.cells #[.slice ah gl.length ch,.int .i64 n,.slice qh l.length dh,.int .i64 t.gr,.int .i64 t.ac,.int .i64 t.rf,.int .i64 t.tr,.int .i64 t.vo,.int .i64 t.no,.int .i64 t.li,.int .i64 t.le] 50)).cell? ⟨b4,5,none⟩ = some (.int .i64 t.rf):=zh (zD (za HX0) (za RS17).a (za HZ0)) 5 rfl
 have p6:(w16.alloc (Obj.cells #[.slice ah gl.length ch,.int .i64 n,.slice qh l.length dh,.int .i64 t.gr,.int .i64 t.ac,.int .i64 t.rf,.int .i64 t.tr,.int .i64 t.vo,.int .i64 t.no,.int .i64 t.li,.int .i64 t.le] 50)).cell? ⟨b4,6,none⟩ = some (.int .i64 t.tr):=zh (zD (za HX0) (za RS17).a (za HZ0)) 6 rfl
 have p7:(w16.alloc (Obj.cells #[.slice ah gl.length ch,.int .i64 n,.slice qh l.length dh,.int .i64 t.gr,.int .i64 t.ac,.int .i64 t.rf,.int .i64 t.tr,.int .i64 t.vo,.int .i64 t.no,.int .i64 t.li,.int .i64 t.le] 50)).cell? ⟨b4,7,none⟩ = some (.int .i64 t.vo):=zh (zD (za HX0) (za RS17).a (za HZ0)) 7 rfl
 have p8:(w16.alloc (Obj.cells #[.slice ah gl.length ch,.int .i64 n,.slice qh l.length dh,.int .i64 t.gr,.int .i64 t.ac,.int .i64 t.rf,.int .i64 t.tr,.int .i64 t.vo,.int .i64 t.no,.int .i64 t.li,.int .i64 t.le] 50)).cell? ⟨b4,8,none⟩ = some (.int .i64 t.no):=zh (zD (za HX0) (za RS17).a (za HZ0)) 8 rfl
 have p9:(w16.alloc (Obj.cells #[.slice ah gl.length ch,.int .i64 n,.slice qh l.length dh,.int .i64 t.gr,.int .i64 t.ac,.int .i64 t.rf,.int .i64 t.tr,.int .i64 t.vo,.int .i64 t.no,.int .i64 t.li,.int .i64 t.le] 50)).cell? ⟨b4,9,none⟩ = some (.int .i64 t.li):=zh (zD (za HX0) (za RS17).a (za HZ0)) 9 rfl
 have p10:(w16.alloc (Obj.cells #[.slice ah gl.length ch,.int .i64 n,.slice qh l.length dh,.int .i64 t.gr,.int .i64 t.ac,.int .i64 t.rf,.int .i64 t.tr,.int .i64 t.vo,.int .i64 t.no,.int .i64 t.li,.int .i64 t.le] 50)).cell? ⟨b4,10,none⟩ = some (.int .i64 t.le):=zh (zD (za HX0) (za RS17).a (za HZ0)) 10 rfl
 go_wp2_with fail
 generalize (w16.alloc (Obj.cells #[.slice ah gl.length ch,.int .i64 n,.slice qh l.length dh,.int .i64 t.gr,.int .i64 t.ac,.int .i64 t.rf,.int .i64 t.tr,.int .i64 t.vo,.int .i64 t.no,.int .i64 t.li,.int .i64 t.le] 50)) = W17 at RS17 HGH7 HQH7 ⊢
 clear p0 p1 p2 p3 p4 p5 p6 p7 p8 p9 p10 RS16 BA HGH HQH
 refine (eqRun_same _ _ _ _ n gl l t W17 (za HGH7) (zbt (za HG4) (za RS17).a (Nat.le_refl _)) (za HQH7) (zi (za HQ4) (za RS17).a (Nat.le_refl _))).mono ?_
 rintro e w18 ⟨rfl,hb⟩
 have RS18:=hide (zba (za RS17) hb)
 clear hb RS17
 have q0:w18.cell? ⟨b7,0,none⟩ = some (.slice aa gl.length ca):=zh (za RS18).x 0 rfl
 have q1:w18.cell? ⟨b7,1,none⟩ = some (.int .i64 n):=zh (za RS18).x 1 rfl
 have q2:w18.cell? ⟨b7,2,none⟩ = some (.slice qa l.length da):=zh (za RS18).x 2 rfl
 have q3:w18.cell? ⟨b7,3,none⟩ = some (.int .i64 t.gr):=zh (za RS18).x 3 rfl
 have q4:w18.cell? ⟨b7,4,none⟩ = some (.int .i64 t.ac):=zh (za RS18).x 4 rfl
 have q5:w18.cell? ⟨b7,5,none⟩ = some (.int .i64 t.rf):=zh (za RS18).x 5 rfl
 have q6:w18.cell? ⟨b7,6,none⟩ = some (.int .i64 t.tr):=zh (za RS18).x 6 rfl
 have q7:w18.cell? ⟨b7,7,none⟩ = some (.int .i64 t.vo):=zh (za RS18).x 7 rfl
 have q8:w18.cell? ⟨b7,8,none⟩ = some (.int .i64 t.no):=zh (za RS18).x 8 rfl
 have q9:w18.cell? ⟨b7,9,none⟩ = some (.int .i64 t.li):=zh (za RS18).x 9 rfl
 have q10:w18.cell? ⟨b7,10,none⟩ = some (.int .i64 t.le):=zh (za RS18).x 10 rfl
 go_wp2_with fail
 refine (heldRunL aa ca gs gl n _ l t w18 (za RS18).g (za RS18).o hf1 (za HF2) hf3).mono ?_
 rw [za HMM]
 rintro e w19 ⟨rfl,hb⟩
 have RS19:=hide (zba (za RS18) hb)
 clear hb RS18
 go_wp2_with fail
 go_ret
 exact ⟨rfl,(za RS19).p⟩
theorem lawRun (a:Option Addr) (len cap:Nat) (w:World) (h:IsCmds w a len cap) :
  Calls Tryz.prog 4 #[.slice a len cap] w fun e w'=>e = .returned (.bool true)∧Below w.heap.size w w':=by
 by_cases hl:len ≤ 1048576
 ·obtain ⟨l,rfl,hr,hok⟩:=h.2 (by omega)
  exact exactRun _ l w hr hl (fun c hc=>(hok c hc).g)
 ·have HZ:=hide (fun W=>szCmdS_long a len cap W (by omega) h.1)
  clear h
  go_enter Tryz.func4,Tryz.ntmps4
  go_wp2_with fail
  refine (za HZ _).mono ?_
  rintro e w1 ⟨rfl,rfl⟩
  go_wp2_with fail
  go_ret
  exact ⟨rfl,Below.refl _ _⟩
end Go.Proofs.YtdfihaabhichdaaGreat
