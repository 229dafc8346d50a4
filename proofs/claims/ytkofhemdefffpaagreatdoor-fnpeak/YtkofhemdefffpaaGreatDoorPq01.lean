/-.-/
import Derived.Test.YtkofhemdefffpaaGreatDoorRows
import Derived.WalkKit
import Derived.Below
import Derived.Deep.MidRow
import Derived.OpenShut
import Derived.Deep.QuietTactic
import Derived.BigQuiet
import Derived.WalkSmall
import Derived.WalkSpells
import Derived.Handy
import Derived.WalkLawsBesides
import Derived.Deep.RegionWith
import Derived.Deep.LoopGhost
import Derived.BigRegion
set_option linter.unusedVariables false
set_option maxHeartbeats 6400000
set_option maxRecDepth 100000
namespace Go.Proofs.YtkofhemdefffpaaGreatDoor
open Go.RowKit
theorem hide {p:Prop}(h:p):Hid p:=h
theorem O {p:Prop}(h:Hid p):p:=h
theorem zB {a b:Bool}(h:a=b):Ending.returned (.bool a) = .returned (.bool b):=by rw[h]
theorem zt {k:IntKind}{a b:Int}(h:a=b):Ending.returned (.int k a) = .returned (.int k b):=by rw[h]
theorem get_nat (s:ByteArray)(k:Nat)(h:k<s.size):s[k]=s.data.toList[k]'(by simpa using h):=rfl
theorem data_len (s:ByteArray):s.data.toList.length=s.size:=by simp
abbrev H (n : Int) : Value:= .int .i64 n
abbrev Y (b o : Nat) : Addr:= ⟨b, o, none⟩
abbrev h3 (b o : Nat) : Value:= .pointer (some ⟨b, o, none⟩)
theorem yb {n : Nat} : n<=n:= Nat.le_refl n
theorem yc {md : Type}{a b : md}(h : some a=some b) : a=b:= Option.some.inj h
theorem U {p : Prop}(h : p) : Hid p:= h
theorem yi {o : Option Value}{v : Value}(h : o=some v) : ∀u, o=some u->v=u:= fun u hu => Option.some.inj (h.symm.trans hu)
theorem yj {o : Option (Option Value)}{v : Value}(h : o=some (some v)) : ∀u, o=some (some u)->v=u:= fun u hu => Option.some.inj (Option.some.inj (h.symm.trans hu))
abbrev yk (n : Nat) : Value:= .float .f64 n
abbrev yl (b : ByteArray) : Value:= .string b
abbrev M : Value:= undef
abbrev me (a : Array Value)(t : TypeId) : Obj:= Obj.cells a t
theorem mg {P : Program}{h2 : Exit->Act->World->Prop}{a : Act}{w : World}{x y : Code}(h : ∀hb : Act->World->Prop, Hid (∀a w, y.wp P h2 a w->hb a w)->x.wp P (Exit.then hb h2) a w) : (Code.seq x y).wp P h2 a w:= wp_seq_k h
theorem mc (w : World)(o : Obj) : Below w.heap.size w (w.alloc o):= (Below.refl _ _).alloc (Nat.le_refl _) _
theorem mf {w w1 w2 : World}(h : Below w.heap.size w w1)(K : Below w1.heap.size w1 w2) : Below w.heap.size w w2:= h.trans (K.mono h.size)
abbrev yw (a b c d e f g : Int)(p : Nat)(s : ByteArray)(h i j k l : Int) : List Value:= [.int .i64 a, .int .i64 b, .int .i64 c, .int .i64 d, .int .i64 e, .int .i64 f, .int .i64 g, .float .f64 p, .string s, .int .i64 h, .int .i64 i, .int .i64 j, .int .i64 k, .int .i64 l]
abbrev yx (a b c d e : Int)(s : ByteArray) : List Value:= [.int .i64 a, .int .i64 b, .int .i64 c, .int .i64 d, .int .i64 e, .string s]
abbrev yy (a b c d e f : Int)(p : Nat)(s : ByteArray) : List Value:= [.int .i64 a, .int .i64 b, .int .i64 c, .int .i64 d, .int .i64 e, .int .i64 f, .float .f64 p, .string s]
abbrev yn (v : Value) : Ending:= .returned v
abbrev yp (w w1 : World) : Prop:= Below w.heap.size w w1
abbrev yq (w : World)(o : Nat) : Value:= .pointer (some ⟨w.heap.size, o, none⟩)
abbrev yr (w : World)(o : Nat) : Addr:= ⟨w.heap.size, o, none⟩
theorem yC {W : World}{b : Nat}{v0 v1 v2 v3 v4 : Value}(h : W.rangeAt b 0 [v0, v1, v2, v3, v4]) : W.cell? ⟨b, 0, none⟩=some v0/\W.cell? ⟨b, 1, none⟩=some v1/\W.cell? ⟨b, 2, none⟩=some v2/\W.cell? ⟨b, 3, none⟩=some v3/\W.cell? ⟨b, 4, none⟩=some v4:= ⟨h 0 _ rfl, h 1 _ rfl, h 2 _ rfl, h 3 _ rfl, h 4 _ rfl⟩
theorem yD {W : World}{b : Nat}{v0 v1 v2 v3 v4 v5 : Value}(h : W.rangeAt b 0 [v0, v1, v2, v3, v4, v5]) : W.cell? ⟨b, 0, none⟩=some v0/\W.cell? ⟨b, 1, none⟩=some v1/\W.cell? ⟨b, 2, none⟩=some v2/\W.cell? ⟨b, 3, none⟩=some v3/\W.cell? ⟨b, 4, none⟩=some v4/\W.cell? ⟨b, 5, none⟩=some v5:= ⟨h 0 _ rfl, h 1 _ rfl, h 2 _ rfl, h 3 _ rfl, h 4 _ rfl, h 5 _ rfl⟩
theorem yE {W : World}{b : Nat}{v0 v1 v2 v3 v4 v5 v6 v7 : Value}(h : W.rangeAt b 0 [v0, v1, v2, v3, v4, v5, v6, v7]) : W.cell? ⟨b, 0, none⟩=some v0/\W.cell? ⟨b, 1, none⟩=some v1/\W.cell? ⟨b, 2, none⟩=some v2/\W.cell? ⟨b, 3, none⟩=some v3/\W.cell? ⟨b, 4, none⟩=some v4/\W.cell? ⟨b, 5, none⟩=some v5/\W.cell? ⟨b, 6, none⟩=some v6/\W.cell? ⟨b, 7, none⟩=some v7:= ⟨h 0 _ rfl, h 1 _ rfl, h 2 _ rfl, h 3 _ rfl, h 4 _ rfl, h 5 _ rfl, h 6 _ rfl, h 7 _ rfl⟩
theorem yF {W : World}{b : Nat}{v0 v1 v2 v3 v4 v5 v6 v7 v8 : Value}(h : W.rangeAt b 0 [v0, v1, v2, v3, v4, v5, v6, v7, v8]) : W.cell? ⟨b, 0, none⟩=some v0/\W.cell? ⟨b, 1, none⟩=some v1/\W.cell? ⟨b, 2, none⟩=some v2/\W.cell? ⟨b, 3, none⟩=some v3/\W.cell? ⟨b, 4, none⟩=some v4/\W.cell? ⟨b, 5, none⟩=some v5/\W.cell? ⟨b, 6, none⟩=some v6/\W.cell? ⟨b, 7, none⟩=some v7/\W.cell? ⟨b, 8, none⟩=some v8:= ⟨h 0 _ rfl, h 1 _ rfl, h 2 _ rfl, h 3 _ rfl, h 4 _ rfl, h 5 _ rfl, h 6 _ rfl, h 7 _ rfl, h 8 _ rfl⟩
theorem yG {W : World}{b : Nat}{v0 v1 v2 v3 v4 v5 v6 v7 v8 v9 v10 v11 v12 v13 : Value}(h : W.rangeAt b 0 [v0, v1, v2, v3, v4, v5, v6, v7, v8, v9, v10, v11, v12, v13]) : W.cell? ⟨b, 0, none⟩=some v0/\W.cell? ⟨b, 1, none⟩=some v1/\W.cell? ⟨b, 2, none⟩=some v2/\W.cell? ⟨b, 3, none⟩=some v3/\W.cell? ⟨b, 4, none⟩=some v4/\W.cell? ⟨b, 5, none⟩=some v5/\W.cell? ⟨b, 6, none⟩=some v6/\W.cell? ⟨b, 7, none⟩=some v7/\W.cell? ⟨b, 8, none⟩=some v8/\W.cell? ⟨b, 9, none⟩=some v9/\W.cell? ⟨b, 10, none⟩=some v10/\W.cell? ⟨b, 11, none⟩=some v11/\W.cell? ⟨b, 12, none⟩=some v12/\W.cell? ⟨b, 13, none⟩=some v13:= ⟨h 0 _ rfl, h 1 _ rfl, h 2 _ rfl, h 3 _ rfl, h 4 _ rfl, h 5 _ rfl, h 6 _ rfl, h 7 _ rfl, h 8 _ rfl, h 9 _ rfl, h 10 _ rfl, h 11 _ rfl, h 12 _ rfl, h 13 _ rfl⟩
abbrev yH:= @List.getElem?_eq_some_iff
abbrev yI:= @List.getElem?_eq_getElem
abbrev yJ:= @List.getElem?_replicate
abbrev yK:= @Nat.lt_of_lt_of_le
abbrev yL:= @World.block_lt_of_cell?
abbrev yM:= @World.cell?_setCell_other
abbrev yN:= @World.cell?_setCell_same
abbrev yO:= @Nat.le_trans
abbrev yP:= @List.mem_of_getElem?
abbrev yQ:= @List.length_append
abbrev yR:= @World.cell?_of_block
abbrev yS:= @World.grownBy.refl
abbrev yT:= @Below.heap_setCell
abbrev yU:= @List.take_succ_cons
abbrev yV:= @List.drop_succ_cons
abbrev yW:= @World.cell?_alloc_lt
abbrev yX:= @List.getElem?_set_ne
abbrev yY:= @World.rangeAt_setCells_same
abbrev yZ:= @Array.getElem?_eq_some_iff
abbrev xa:= @List.take_of_length_le
abbrev xb:= @List.drop_of_length_le
abbrev xc:= @World.there_setCells
abbrev xd:= @List.drop_eq_getElem_cons
abbrev xe:= @beq_eq_false_iff_ne
abbrev xf:= @Bool.and_eq_true
abbrev xg:= @decide_eq_true_eq
theorem yf {L : Array Edge}{x : List Bool}(h : ∀e∈L, Region.binds .any e=true->x[e.on]? = some true)(j : Nat)(hm : (L.toList.any fun e => e.on==j&&Region.binds .any e)=true) : x[j]? = some true:= by
  obtain⟨e, he, hp⟩:= List.any_eq_true.1 hm;rw[Bool.and_eq_true] at hp;have Z : e.on=j:= by simpa using hp.1
  have:= h e (by simpa using he) hp.2;rw[Z] at this;exact this
def Rd (w:World)(v:Value)(l:List Int):Prop:=
 ∃(a:Option Addr) (cap:Nat),v = .slice a l.length cap/\l.length<=1073741824 /\
  (l ≠ []->∃b off,a=some (Y b off)/\∀i,i<l.length->w.cell? (Y b (off+i))=some (.int .u8 (l.getD i 0)))
theorem zr {a b c:World}{row:Option Nat}(h:a.grownBy b row)(k:b.grownBy c row):a.grownBy c row:=
 ⟨k.os.trans h.os,k.tape.trans h.tape,k.output.trans h.output,yO h.size k.size,
  fun i hi xE=>(k.block i (yK hi h.size) xE).trans (h.block i hi xE)⟩
theorem fI (w:World)(a:Addr)(u:Value):w.grownBy (w.setCell a u) (some a.block):=
 ⟨rfl,rfl,rfl,by simp[World.setCell],fun k _ xE=>yT _ _ _ _ (fun e=>xE (by rw[e]))⟩
theorem ef (w:World)(n:Nat)(row:Option Nat):w.grownBy (w.drewN n) row:=⟨rfl,rfl,rfl,Nat.le_refl _,fun _ _ _=>rfl⟩
theorem gr_below {w w':World}{g B:Nat}(h:w.grownBy w' (some g))(hB:B<=g)(hs:B<=w.heap.size):Below B w w':=
 ⟨h.os,h.tape,h.output,h.size,fun k E=>h.block k (by omega) (by simp;omega)⟩
theorem zV {g a b:Nat}(h:a≠b):((Y g a):Addr)≠(Y g b):=by
 intro e;injection e;exact h (by assumption)
def Own (B:Nat)(w:World)(v:Value)(l:List Int):Prop:=
 ∃g cap,v = .slice (some (Y g 0)) l.length cap/\B<=g/\g<w.heap.size/\l.length<=1073741824 /\
  (∀i,i<l.length->w.cell? (Y g (0+i))=some (.int .u8 (l.getD i 0)))/\∀i,i<l.length->w.frozen? (Y g (0+i))=false
theorem own_push {B:Nat}{w:World}{v:Value}{done:List Int}{x:Int}(h:w.ownsRow B 5 1 v (done.length+1) (done.map (Value.int .u8) ++ [.int .u8 x])) :
  w.ownsRow B 5 1 v (done ++ [x]).length ((done ++ [x]).map (Value.int .u8)):=by
 simpa using h
theorem fV {B:Nat}{w wr w1:World}{v:Value}{n:Nat}{xs:List Value}{o:Obj}(xl:Below B w wr)(xu:wr.ownsRow B 5 1 v n xs)(hB:B<=wr.heap.size)(F:(wr.alloc o).grownBy w1 v.ownBlock):Below B w w1:=
 (xl.alloc hB o).grown F (by simp;omega) fun k E=>(xu.lt k E).1
theorem size_push {wr w1:World}{o:Obj}{row:Option Nat}{B:Nat}(hB:B<wr.heap.size)(F:(wr.alloc o).grownBy w1 row):B<w1.heap.size:=by
 have:=F.size;simp at this;omega
theorem Tryz.infoByte:(Tryz.prog.info? 5).map (fun i=>(i.zero,i.size,i.bytes))=some (some (.int .u8 0),1,1):=by kernel_rfl
def OwnT (B:Nat)(w:World)(v:Value)(l:List Int):Prop:=
 ∃g cap xt t,v = .slice (some (Y g 0)) l.length cap/\B<=g/\w.heap[g]? = some (.cells xt t (0,0))/\l.length<=cap/\cap<=xt.size/\cap<=maxLen/\l.length<=1073741824 /\
  xt.toList.take l.length=l.map (Value.int .u8)
theorem lj {w:World}{g t:Nat}{xt:Array Value}{l:List Int}(F:w.heap[g]? = some (.cells xt t (0,0)))(ht:xt.toList.take l.length=l.map (Value.int .u8)){i:Nat}(hi:i<l.length) :
  w.cell? (Y g i)=some (.int .u8 (l.getD i 0)):=by
 rw[cell_of_row w g i xt t (0,0) F];have Z:(xt.toList.take l.length)[i]? = (l.map (Value.int .u8))[i]?:=by rw[ht]
 rw[List.getElem?_take,if_pos hi,List.getElem?_map,yI hi] at Z;simpa[hi] using Z
theorem OwnT.own {B:Nat}{w:World}{v:Value}{l:List Int}(h:OwnT B w v l):Own B w v l:=by
 obtain⟨g,cap,xt,t,rfl,K,F,_,_,_,hl,ht⟩:=h;exact⟨g,cap,rfl,K,(yZ.1 F).1,hl,fun i hi=>by rw[Nat.zero_add];exact lj F ht hi,fun i _=>by simp[World.frozen?,F]⟩
theorem OwnT.ge {B:Nat}{w:World}{v:Value}{l:List Int}(h:OwnT B w v l):∀k,v.ownBlock=some k->B<=k:=by
 obtain⟨g,cap,xt,t,rfl,K,_⟩:=h;intro k E;simp[Value.ownBlock] at E;omega
theorem ownT_row {B:Nat}{w:World}{v:Value}{l:List Int}(xE:0<l.length)(xC:l.length<=1073741824)
  (h:w.ownsRow B 5 1 v l.length (l.map (Value.int .u8))):OwnT B w v l:=by
 rcases h.2 with⟨_,h0⟩|⟨g,cap,xt,rfl,K,F,Z,Q,hcur,pg⟩
 ·omega
 ·exact⟨g,cap,xt,_,rfl,K,F,Z,by omega,Q,xC,by simpa using pg⟩
theorem ownT_done {B:Nat}{w:World}{v:Value}{done l:List Int}{x:Int}(h:w.ownsRow B 5 1 v (done.length+1) (done.map (Value.int .u8) ++ [.int .u8 x]))(he:done ++ [x]=l)(hl:l.length<=1073741824) :
  OwnT B w v l:=by
 subst he;exact ownT_row (by simp) hl (own_push h)
def Arr (ym B:Nat)(w wr:World)(done:List Int):Prop:=
 ∃xt t,wr.heap[B]? = some (.cells xt t (0,0))/\xt.size=ym/\done.length<=ym/\xt.toList.take done.length=done.map (Value.int .u8)/\Below B w wr
theorem Arr.below {ym B:Nat}{w wr:World}{done:List Int}(h:Arr ym B w wr done):Below B w wr:=by
 obtain⟨_,_,_,_,_,_,h⟩:=h;exact h
theorem Arr.lt {ym B:Nat}{w wr:World}{done:List Int}(h:Arr ym B w wr done):B<wr.heap.size:=by
 obtain⟨_,_,h,_⟩:=h;exact(yZ.1 h).1
theorem Arr.some {ym B:Nat}{w wr:World}{done:List Int}(h:Arr ym B w wr done){j:Nat}(hj:j<ym):∃v,wr.cell? (Y B j) = .some v:=by
 obtain⟨xt,t,Z,Q,_⟩:=h;exact⟨_,(cell_of_row wr B j xt t (0,0) Z).trans (Array.getElem?_eq_getElem (by omega))⟩
theorem Arr.free {ym B:Nat}{w wr:World}{done:List Int}(h:Arr ym B w wr done)(j:Nat):wr.frozen? (Y B j)=false:=by
 obtain⟨xt,t,Z,_⟩:=h;simp[World.frozen?,Z]
theorem arr_start {ym:Nat}(w:World)(c:Array Value)(t:TypeId)(h:c.size=ym):Arr ym w.heap.size w (w.alloc (.cells c t)) []:=
 ⟨c,t,heap_alloc_new w _,h,Nat.zero_le _,rfl,mc _ _⟩
theorem arr_step {ym B:Nat}{w wr:World}{done:List Int}(x:Int)(h:Arr ym B w wr done)(hM:done.length<ym):Arr ym B w (wr.setCell (Y B done.length) (.int .u8 x)) (done ++ [x]):=by
 obtain⟨xt,t,Z,Q,I,h4,h5⟩:=h;refine⟨xt.setIfInBounds done.length (.int .u8 x),t,by simp[World.setCell,Array.getElem?_modify,Z],by simpa using Q,by simp;omega,?_,h5.setCell yb _⟩;rw[yQ,List.length_singleton,List.take_succ_eq_append_getElem (by simp;omega)];simp only[Array.toList_setIfInBounds,List.map_append,List.map_cons,List.map_nil];rw[List.take_set_of_le yb,h4];simp
theorem arr_own {ym B cap:Nat}{w wr:World}{l:List Int}(h:Arr ym B w wr l)(hc:cap=ym)(hM':ym<=1073741824):OwnT B wr (.slice (some (Y B 0)) l.length cap) l:=by
 obtain⟨xt,t,Z,Q,I,h4,_⟩:=h;exact⟨B,cap,xt,t,rfl,Nat.le_refl _,Z,by omega,by omega,by unfold maxLen;omega,by omega,h4⟩
theorem zY {B:Nat}{a w:World}(h:Below B a w)(n:Nat):Below B a (w.drewN n):=h.trans ⟨rfl,rfl,rfl,Nat.le_refl _,fun _ _=>rfl⟩
def Bts (l:List Int):Prop:=∀x∈l,0<=x/\x<=255
theorem gk {l:List Int}(h:Bts l)(k:Nat):0<=l.getD k 0/\l.getD k 0<=255:=by
 by_cases E:k<l.length
 ·have e:l.getD k 0=l[k]:=by simp[E]
  rw[e];exact h _ (List.getElem_mem E)
 ·simp[Nat.le_of_not_lt E]
theorem rd_of_row {w:World}{a:Option Addr}{len cap:Nat}{zs:List Int}
  (h:(a=none/\len=0/\cap=0/\zs = []) \/ ∃x,a=some x/\len<=cap/\cap<=maxLen/\zs.length=cap/\(∀i,i<zs.length->w.cell? (x.add i)=some (.int .u8 (zs.getD i 0)))/\∀n∈zs,(Lit.int .u8 n).wf=true)
  (hl:len<=1073741824):(zs.take len).length=len/\Rd w (.slice a len cap) (zs.take len)/\Bts (zs.take len):=by
 rcases h with⟨rfl,rfl,rfl,rfl⟩|⟨x,rfl,Z,_,hz,hc,hw⟩
 ·exact⟨rfl,⟨none,0,rfl,by simp,fun h=>absurd rfl h⟩,fun x hx=>by simp at hx⟩
 ·have xC:(zs.take len).length=len:=by rw[List.length_take];omega
  refine⟨xC,⟨some x,cap,by rw[xC],by omega,fun xE=>?_⟩,fun n hn=>bounds_u8 (hw n (List.mem_of_mem_take hn))⟩
  have hp:0<len:=by
   rcases Nat.eq_zero_or_pos len with h0|h0
   ·subst h0;simp at xE
   ·exact h0
  obtain⟨b,off,spot⟩:=x;have h0:=hc 0 (by omega);have hspot:spot=none:=by simpa[Addr.add] using World.cell?_spot h0
  subst hspot;refine⟨b,off,rfl,fun i hi=>?_⟩;rw[xC] at hi;have:=hc i (by omega);have e:((Y b off):Addr).add i=(Y b (off+i)):=by unfold Addr.add;split <;> simp_all
  rw[e] at this;rw[this];have e2:(zs.take len).getD i 0=zs.getD i 0:=by simp[hi]
  rw[e2]
theorem fx {B:Nat}{w w':World}{v:Value}{l:List Int}(h:Rd w v l)(K:Below B w w')(hB:w.heap.size<=B):Rd w' v l:=by
 obtain⟨a,cap,rfl,hl,hc⟩:=h;refine⟨a,cap,rfl,hl,fun xE=>?_⟩;obtain⟨b,off,rfl,xp⟩:=hc xE;exact⟨b,off,rfl,fun i hi=>(K.cell (p:=(Y b (off+i))) (yK (yL w _ (xp i hi)) hB)).trans (xp i hi)⟩
theorem fi {w:World}{v:Value}{l:List Int}(h:Rd w v l):∃a cap,v = .slice a l.length cap:=by
 obtain⟨a,cap,rfl,_⟩:=h;exact⟨a,cap,rfl⟩
theorem take_get (l:List Int)(k:Nat)(h:k<l.length):l.take (k+1)=l.take k ++ [l.getD k 0]:=by
 rw[List.take_succ_eq_append_getElem h];simp[h]
structure Od where
  id:Int
  side:Int
  ticks:Int
  left:Int
  life:Int
  tag:ByteArray
structure Nd where
  side:Int
  ticks:Int
  qty:Int
  count:Int
  be:Nat
  wo:Nat
  el:Nat
  yo:Nat
structure Qo where
  od:Od
  yg:Nat
structure TS where
  root:Nat
  lc:Nat
  oc:Nat
  nd:Nat->Nd
  qo:Nat->Qo
inductive Tr where
  | nil:Tr
  | node (h:Nat) (l r:Tr):Tr
def zOd:Od:=⟨0,0,0,0,0,⟨#[]⟩⟩
def zNd:Nd:=⟨0,0,0,0,0,0,0,0⟩
def zQo:Qo:=⟨zOd,0⟩
def zTS:TS:=⟨0,0,0,fun _=>zNd,fun _=>zQo⟩
def bt:Bool->Int->Int->Prop
  | true,a,b=>b<a
  | false,a,b=>a<b
theorem gu (s:Bool)(a:Int):¬ bt s a a:=by cases s <;> simp[bt]
theorem bt_trans {s:Bool}{a b c:Int}(Z:bt s a b)(Q:bt s b c):bt s a c:=by cases s <;> simp only[bt] at * <;> omega
theorem bt_total (s:Bool)(a b:Int):bt s a b\/a=b\/bt s b a:=by cases s <;> simp only[bt] <;> omega
theorem bt_asymm {s:Bool}{a b:Int}(Z:bt s a b):¬ bt s b a:=by cases s <;> simp only[bt] at * <;> omega
instance (s:Bool) (a b:Int):Decidable (bt s a b):=by cases s <;> (unfold bt;infer_instance)
def Tr.hs:Tr->List Nat
  | .nil=>[]
  | .node h l r=>l.hs++h::r.hs
def Rep (nd:Nat->Nd):Tr->Nat->Prop
  | .nil,v=>v=0
  | .node h l r,v=>v=h/\0<h/\Rep nd l (nd h).be/\Rep nd r (nd h).wo
theorem hU {nd nd':Nat->Nd}:∀ {t:Tr} {v:Nat},(∀h∈t.hs,(nd' h).be=(nd h).be/\(nd' h).wo=(nd h).wo)->Rep nd t v->Rep nd' t v
  | .nil,_,_,h=>h
  | .node h l r,v,hc,⟨Z,Q,I,h4⟩=>by
    have hh:=hc h (by simp[Tr.hs]);refine⟨Z,Q,?_,?_⟩
    · rw[hh.1];exact hU (fun a ha=>hc a (by simp[Tr.hs,ha])) I
    · rw[hh.2];exact hU (fun a ha=>hc a (by simp[Tr.hs,ha])) h4
theorem rep_nil {nd:Nat->Nd}{t:Tr}(h:Rep nd t 0):t = .nil:=by
  cases t with
  | nil=>rfl
  | node a l r=>obtain⟨Z,Q,_⟩:=h;omega
theorem rep_node {nd:Nat->Nd}{t:Tr}{v:Nat}(h:Rep nd t v)(hv:v≠0):∃l r,t = .node v l r/\Rep nd l (nd v).be/\Rep nd r (nd v).wo:=by
  cases t with
  | nil=>exact absurd h hv
  | node a l r=>obtain⟨rfl,_,I,h4⟩:=h;exact⟨l,r,rfl,I,h4⟩
inductive Cur where
  | root:Cur
  | be (h:Nat):Cur
  | wo (h:Nat):Cur
def TS.rd (S:TS):Cur->Nat
  | .root=>S.root
  | .be h=>(S.nd h).be
  | .wo h=>(S.nd h).wo
def upd {α:Type}(f:Nat->α)(i:Nat)(x:α):Nat->α:=fun j=>if j=i then x else f j
theorem zp {α:Type}(f:Nat->α)(i:Nat)(x:α):upd f i x i=x:=by simp[upd]
theorem zu {α:Type}(f:Nat->α){i j:Nat}(x:α)(h:j≠i):upd f i x j=f j:=by simp[upd,h]
def TS.wr (S:TS)(n:Nat):Cur->TS
  | .root=>{ S with root:=n }
  | .be h=>{ S with nd:=upd S.nd h { S.nd h with be:=n } }
  | .wo h=>{ S with nd:=upd S.nd h { S.nd h with wo:=n } }
abbrev Ctx:=List (Bool × Nat × Tr)
def plug:Ctx->Tr->Tr
  | [],s=>s
  | (true,h,r)::c,s=>plug c (.node h s r)
  | (false,h,l)::c,s=>plug c (.node h l s)
def cZ:Ctx->Cur
  | []=>.root
  | (true,h,_) :: _=>.be h
  | (false,h,_) :: _=>.wo h
def cl:Ctx->List Nat
  | []=>[]
  | (true,_,_)::c=>cl c
  | (false,h,l)::c=>cl c++(l.hs ++ [h])
def cr:Ctx->List Nat
  | []=>[]
  | (true,h,r)::c=>h::r.hs++cr c
  | (false,_,_)::c=>cr c
theorem gU:∀(c:Ctx) (s:Tr),(plug c s).hs=cl c++(s.hs++cr c)
  | [],s=>by simp[plug,cl,cr]
  | (true,h,r)::c,s=>by rw[plug,gU c];simp[Tr.hs,cl,cr]
  | (false,h,l)::c,s=>by rw[plug,gU c];simp[Tr.hs,cl,cr]
def RepC (nd:Nat->Nd):Ctx->Nat->Nat->Prop
  | [],root,v=>v=root
  | (true,h,r)::c,root,v=>v=(nd h).be/\0<h/\Rep nd r (nd h).wo/\RepC nd c root h
  | (false,h,l)::c,root,v=>v=(nd h).wo/\0<h/\Rep nd l (nd h).be/\RepC nd c root h
theorem rep_plug {nd:Nat->Nd}{root:Nat}:∀(c:Ctx) (s:Tr) (v:Nat),RepC nd c root v->Rep nd s v->Rep nd (plug c s) root
  | [],s,v,h,hs=>by rw[<- h];exact hs
  | (true,a,r)::c,s,v,⟨Z,Q,I,h4⟩,hs=>rep_plug c (.node a s r) a h4 ⟨rfl,Q,Z ▸ hs,I⟩
  | (false,a,l)::c,s,v,⟨Z,Q,I,h4⟩,hs=>rep_plug c (.node a l s) a h4 ⟨rfl,Q,I,Z ▸ hs⟩
theorem iZ {nd nd':Nat->Nd}:∀ {c:Ctx} {root v:Nat},(∀h∈cl c++cr c,(nd' h).be=(nd h).be/\(nd' h).wo=(nd h).wo)->RepC nd c root v->RepC nd' c root v
  | [],_,_,_,h=>h
  | (true,a,r)::c,root,v,hc,⟨Z,Q,I,h4⟩=>by
    have ha:=hc a (by simp[cr]);refine⟨by rw[ha.1];exact Z,Q,by rw[ha.2];exact hU (fun b K=>hc b (by simp[cr,K])) I,iZ (fun b K=>hc b ?_) h4⟩;simp[cl,cr] at K |-;rcases K with K|K <;> simp[K]
  | (false,a,l)::c,root,v,hc,⟨Z,Q,I,h4⟩=>by
    have ha:=hc a (by simp[cl]);refine⟨by rw[ha.2];exact Z,Q,by rw[ha.1];exact hU (fun b K=>hc b (by simp[cl,K])) I,iZ (fun b K=>hc b ?_) h4⟩;simp[cl,cr] at K |-;rcases K with K|K <;> simp[K]
theorem rep_wr {S:TS}{c:Ctx}{v n:Nat}(h:RepC S.nd c S.root v)(hd:(cl c++cr c).Nodup):RepC (S.wr n (cZ c)).nd c (S.wr n (cZ c)).root n:=by
  match c,h,hd with
  | [],h,_=>rfl
  | (true,a,r)::c,⟨Z,Q,I,h4⟩,hd =>
    simp only[cl,cr] at hd;rw[List.nodup_append] at hd;obtain⟨d1,d2,d3⟩:=hd;simp only[List.cons_append,List.nodup_cons,List.mem_append,not_or] at d2
    have xE:∀b,b∈r.hs\/b∈cl c\/b∈cr c->b≠a:=by
      rintro b (K|K|K) rfl
      · exact d2.1.1 K
      · exact d3 b K b (by simp) rfl
      · exact d2.1.2 K
    simp only[cZ,TS.wr];refine⟨by simp[upd],Q,?_,?_⟩
    · simp only[zp];exact hU (fun b K=>by rw[zu _ _ (xE b (.inl K))];exact⟨rfl,rfl⟩) I
    · exact iZ (fun b K=>by rw[zu _ _ (xE b (.inr (by simpa using K)))];exact⟨rfl,rfl⟩) h4
  | (false,a,l)::c,⟨Z,Q,I,h4⟩,hd =>
    simp only[cl,cr] at hd;rw[List.nodup_append] at hd;obtain⟨d1,d2,d3⟩:=hd;rw[List.nodup_append] at d1;obtain⟨d4,d5,d6⟩:=d1;rw[List.nodup_append] at d5;obtain⟨d7,d8,d9⟩:=d5
    have xE:∀b,b∈l.hs\/b∈cl c\/b∈cr c->b≠a:=by
      rintro b (K|K|K) rfl
      · exact d9 b K b (by simp) rfl
      · exact d6 b K b (by simp) rfl
      · exact d3 b (by simp) b K rfl
    simp only[cZ,TS.wr];refine⟨by simp[upd],Q,?_,?_⟩
    · simp only[zp];exact hU (fun b K=>by rw[zu _ _ (xE b (.inl K))];exact⟨rfl,rfl⟩) I
    · exact iZ (fun b K=>by rw[zu _ _ (xE b (.inr (by simpa using K)))];exact⟨rfl,rfl⟩) h4
structure TI (s:Bool) (S:TS) (t:Tr):Prop where
  rep:Rep S.nd t S.root
  nodup:t.hs.Nodup
  range:∀h∈t.hs,1<=h/\h<=S.lc
  len:t.hs.length=S.lc
  sorted:t.hs.Pairwise (fun a b=>bt s (S.nd a).ticks (S.nd b).ticks)
  fresh:∀h,S.lc<h->S.nd h=zNd
structure Way (s:Bool) (S:TS) (t:Tr) (k:Int) (c:Ctx) (u:Tr):Prop where
  plug:t=plug c u
  repC:RepC S.nd c S.root (S.rd (cZ c))
  rep:Rep S.nd u (S.rd (cZ c))
  left:∀a∈cl c,bt s (S.nd a).ticks k
  right:∀a∈cr c,bt s k (S.nd a).ticks
theorem way_start {s:Bool}{S:TS}{t:Tr}(h:TI s S t)(k:Int):Way s S t k [] t:=
  ⟨rfl,rfl,h.rep,by simp[cl],by simp[cr]⟩
theorem way_pair {s:Bool}{S:TS}{a:Nat}{l r:Tr}{c:Ctx}(h:(plug c (.node a l r)).hs.Pairwise (fun a b=>bt s (S.nd a).ticks (S.nd b).ticks)) :
    (∀b∈l.hs,bt s (S.nd b).ticks (S.nd a).ticks)/\(∀b∈r.hs,bt s (S.nd a).ticks (S.nd b).ticks):=by
  rw[gU,Tr.hs] at h;have Q:=(List.pairwise_append.1 (List.pairwise_append.1 h).2.1).1;obtain⟨_,I,h4⟩:=List.pairwise_append.1 Q;exact⟨fun b K=>h4 b K a (by simp),(List.pairwise_cons.1 I).1⟩
theorem way_be {s:Bool}{S:TS}{t:Tr}{k:Int}{c:Ctx}{u:Tr}{a:Nat}(hi:TI s S t)(h:Way s S t k c u)(ha:S.rd (cZ c)=a)(h0:a≠0)(E:bt s k (S.nd a).ticks) :
    ∃l r,u = .node a l r/\Way s S t k ((true,a,r)::c) l:=by
  obtain⟨Z,Q,I,h4,h5⟩:=h;rw[ha] at Q I;obtain⟨l,r,rfl,h6,h7⟩:=rep_node I h0;have hp:=way_pair (by rw[<- Z];exact hi.sorted);refine⟨l,r,rfl,Z,⟨rfl,by omega,h7,Q⟩,h6,h4,fun b K=>?_⟩;simp only[cr,List.cons_append,List.mem_cons,List.mem_append] at K;rcases K with rfl|K|K
  · exact E
  · exact bt_trans E (hp.2 b K)
  · exact h5 b K
theorem way_wo {s:Bool}{S:TS}{t:Tr}{k:Int}{c:Ctx}{u:Tr}{a:Nat}(hi:TI s S t)(h:Way s S t k c u)(ha:S.rd (cZ c)=a)(h0:a≠0)(E:bt s (S.nd a).ticks k) :
    ∃l r,u = .node a l r/\Way s S t k ((false,a,l)::c) r:=by
  obtain⟨Z,Q,I,h4,h5⟩:=h;rw[ha] at Q I;obtain⟨l,r,rfl,h6,h7⟩:=rep_node I h0;have hp:=way_pair (by rw[<- Z];exact hi.sorted);refine⟨l,r,rfl,Z,⟨rfl,by omega,h6,Q⟩,h7,fun b K=>?_,h5⟩;simp only[cl,List.mem_append,List.mem_cons,List.not_mem_nil,or_false] at K;rcases K with K|K|rfl
  · exact h4 b K
  · exact bt_trans (hp.1 b K) E
  · exact E
theorem way_at {s:Bool}{S:TS}{t:Tr}{k:Int}{c:Ctx}{u:Tr}{a:Nat}(h:Way s S t k c u)(ha:S.rd (cZ c)=a)(h0:a≠0):a∈t.hs:=by
  obtain⟨Z,Q,I,_⟩:=h;rw[ha] at I;obtain⟨l,r,rfl,_⟩:=rep_node I h0;rw[Z,gU];simp[Tr.hs]
def TS.grow (S:TS)(cu:Cur)(sd k:Int):TS:=
  let S1:=S.wr (S.lc+1) cu
  { S1 with lc:=S.lc+1,nd:=upd S1.nd (S.lc+1) { S1.nd (S.lc+1) with side:=sd,ticks:=k,qty:=0,count:=0 } }
theorem lQ (S:TS)(n:Nat)(cu:Cur)(a:Nat):((S.wr n cu).nd a).ticks=(S.nd a).ticks:=by
  cases cu with
  | root=>rfl
  | be h=>simp only[TS.wr,upd];split <;> simp_all
  | wo h=>simp only[TS.wr,upd];split <;> simp_all
theorem wr_nd_out (S:TS)(n:Nat)(c:Ctx)(a:Nat)(ha:a ∉ cl c++cr c):(S.wr n (cZ c)).nd a=S.nd a:=by
  match c,ha with
  | [],_=>rfl
  | (true,b,r)::c,ha=>simp only[cZ,TS.wr];exact zu _ _ (fun e=>ha (by simp[cl,cr,e]))
  | (false,b,l)::c,ha=>simp only[cZ,TS.wr];exact zu _ _ (fun e=>ha (by simp[cl,cr,e]))
theorem wr_same (S:TS)(n:Nat)(cu:Cur):(S.wr n cu).lc=S.lc/\(S.wr n cu).oc=S.oc/\(S.wr n cu).qo=S.qo:=by
  cases cu <;> exact⟨rfl,rfl,rfl⟩
theorem wr_nd_rest (S:TS)(n:Nat)(cu:Cur)(a:Nat):((S.wr n cu).nd a).side=(S.nd a).side/\((S.wr n cu).nd a).qty=(S.nd a).qty/\((S.wr n cu).nd a).count=(S.nd a).count/\((S.wr n cu).nd a).el=(S.nd a).el/\((S.wr n cu).nd a).yo=(S.nd a).yo:=by
  cases cu with
  | root=>exact⟨rfl,rfl,rfl,rfl,rfl⟩
  | be h=>simp only[TS.wr,upd];split <;> simp_all
  | wo h=>simp only[TS.wr,upd];split <;> simp_all
theorem ti_grow {s:Bool}{S:TS}{t:Tr}{k sd:Int}{c:Ctx}{u:Tr}(hi:TI s S t)(h:Way s S t k c u)(h0:S.rd (cZ c)=0) :
    TI s (S.grow (cZ c) sd k) (plug c (.node (S.lc+1) .nil .nil))/\t.hs=cl c++cr c/\(∀a∈t.hs,(S.nd a).ticks≠k):=by
  obtain⟨Z,Q,I,h4,h5⟩:=h;rw[h0] at I;obtain rfl:=rep_nil I;have ht:t.hs=cl c++cr c:=by rw[Z,gU];simp[Tr.hs]
  have pE:S.lc+1 ∉ cl c++cr c:=by
    rw[<- ht];intro hm;have:=(hi.range _ hm).2;omega
  have hnd:=hi.nodup;rw[ht] at hnd
  have hz:(S.grow (cZ c) sd k).nd (S.lc+1) = { zNd with side:=sd,ticks:=k }:=by
    show upd _ _ _ _ = _;rw[zp,wr_nd_out S _ c _ pE,hi.fresh _ (by omega)];rfl
  have hrc:=rep_wr (n:=S.lc+1) Q hnd;have hag:∀b∈cl c++cr c,(S.grow (cZ c) sd k).nd b=(S.wr (S.lc+1) (cZ c)).nd b:=fun b K=>zu _ _ (fun e=>pE (e ▸ K));have hhs:(plug c (.node (S.lc+1) .nil .nil)).hs=cl c++(S.lc+1)::cr c:=by rw[gU];simp[Tr.hs]
  have pG:∀b∈cl c++cr c,((S.grow (cZ c) sd k).nd b).ticks=(S.nd b).ticks:=fun b K=>by rw[hag b K,lQ]
  have bh:=hi.sorted;rw[ht] at bh;refine⟨⟨?_,?_,?_,?_,?_,?_⟩,ht,?_⟩
  · refine rep_plug c _ (S.lc+1) (iZ (fun b K=>by rw[hag b K];exact⟨rfl,rfl⟩) hrc) ⟨rfl,by omega,?_,?_⟩ <;> rw[hz] <;> rfl
  · rw[hhs];rw[List.nodup_append] at hnd |-;obtain⟨d1,d2,d3⟩:=hnd;refine⟨d1,List.nodup_cons.2 ⟨fun hm=>pE (by simp[hm]),d2⟩,?_⟩;intro a ha b K;rcases List.mem_cons.1 K with rfl|K
    · rintro rfl;exact pE (by simp[ha])
    · exact d3 a ha b K
  · rw[hhs];intro a ha;have qd:(S.grow (cZ c) sd k).lc=S.lc+1:=rfl;rw[qd];simp only[List.mem_append,List.mem_cons] at ha;rcases ha with ha|rfl|ha
    · have:=hi.range a (by rw[ht];simp[ha]);omega
    · omega
    · have:=hi.range a (by rw[ht];simp[ha]);omega
  · rw[hhs];have:=hi.len;rw[ht] at this;show _ = S.lc+1;simp at this |-;omega
  · rw[hhs,List.pairwise_append];rw[List.pairwise_append] at bh;obtain⟨d1,d2,d3⟩:=bh;refine⟨d1.imp_of_mem fun {a b} ha K hab=>?_,List.pairwise_cons.2 ⟨fun b K=>?_,d2.imp_of_mem fun {a b} ha K hab=>?_⟩,fun a ha b K=>?_⟩
    · rw[pG a (by simp[ha]),pG b (by simp[K])];exact hab
    · rw[hz,pG b (by simp[K])];exact h5 b K
    · rw[pG a (by simp[ha]),pG b (by simp[K])];exact hab
    · rw[pG a (by simp[ha])];rcases List.mem_cons.1 K with rfl|K
      · rw[hz];exact h4 a ha
      · rw[pG b (by simp[K])];exact d3 a ha b K
  · intro h hh;have hh':S.lc+1<h:=hh;show upd _ _ _ _ = _;rw[zu _ _ (by omega),wr_nd_out S _ c _ (by rw[<- ht];intro hm;have:=(hi.range _ hm).2;omega),hi.fresh _ (by omega)]
  · intro a ha;rw[ht,List.mem_append] at ha;rcases ha with ha|ha
    · intro e;have:=h4 a ha;rw[e] at this;exact gu _ _ this
    · intro e;have:=h5 a ha;rw[e] at this;exact gu _ _ this
theorem zf {C:Nat}{w w':World}{b o:Nat}{cs:List Value}(h:w.rangeAt b o cs)(K:Below C w w')(hC:b<C):w'.rangeAt b o cs:=
 fun j v hv=>(K.cell (p:=(Y b (o+j))) hC).trans (h j v hv)
theorem zk {C:Nat}{w w':World}{b o n:Nat}(h:w.there b o n)(K:Below C w w')(hC:b<C):w'.there b o n:=
 fun j hj=>⟨by rw[K.cell (p:=(Y b (o+j))) hC];exact(h j hj).1,by rw[K.frozen (p:=(Y b (o+j))) hC];exact(h j hj).2⟩
theorem zv {G:Option Nat}{w w':World}{b o:Nat}{cs:List Value}(h:w.rangeAt b o cs)(F:w.grownBy w' G)(K:b<w.heap.size)(xE:some b≠G):w'.rangeAt b o cs:=
 fun j v hv=>(yR (a:=(Y b (o+j))) (F.block b K xE)).trans (h j v hv)
theorem fK {G:Option Nat}{w w':World}{b o n:Nat}(h:w.there b o n)(F:w.grownBy w' G)(K:b<w.heap.size)(xE:some b≠G):w'.there b o n:=
 fun j hj=>⟨by rw[yR (a:=(Y b (o+j))) (F.block b K xE)];exact(h j hj).1,by rw[World.frozen?_of_block (a:=(Y b (o+j))) (F.block b K xE)];exact(h j hj).2⟩
theorem ft {w w':World}{B:Nat}{G:Option Nat}(h:Below B w w')(hB:w.heap.size<=B):w.grownBy w' G:=
 ⟨h.os,h.tape,h.output,h.size,fun k E _=>h.block k (by omega)⟩
theorem lm {w w':World}{G:Option Nat}{B:Nat}(h:w.grownBy w' G)(hG:∀g,G=some g->B<=g)(hs:B<=w.heap.size):Below B w w':=
 ⟨h.os,h.tape,h.output,h.size,fun k E=>h.block k (by omega) (fun e=>by have:=hG k e.symm;omega)⟩
section
variable {α:Type} (f:α->List Value) (sz:Nat)
def RdR (w:World)(v:Value)(l:List α):Prop:=
 ∃(a:Option Addr) (cap:Nat),v = .slice a l.length cap/\l.length<=1073741824 /\
  (l ≠ []->∃b off,a=some (Y b off)/\b<w.heap.size/\∀i c,l[i]? = some c->w.rangeAt b (off+i*sz) (f c))
def OwnR (B:Nat)(w:World)(v:Value)(l:List α):Prop:=
 ∃(a:Option Addr) (cap:Nat),v = .slice a l.length cap/\l.length<=1073741824 /\
  (l ≠ []->∃g,a=some (Y g 0)/\B<=g/\g<w.heap.size/\(∀i c,l[i]? = some c->w.rangeAt g (0+i*sz) (f c))/\w.there g 0 (l.length*sz))
variable {f sz}
theorem ownR_rd {B:Nat}{w:World}{v:Value}{l:List α}(h:OwnR f sz B w v l):RdR f sz w v l:=by
 obtain⟨a,cap,rfl,hl,h⟩:=h;refine⟨a,cap,rfl,hl,fun xE=>?_⟩;obtain⟨g,rfl,_,Q,I,_⟩:=h xE;exact⟨g,0,rfl,Q,I⟩
theorem zq {C:Nat}{w w':World}{v:Value}{l:List α}(h:RdR f sz w v l)(K:Below C w w')(hC:w.heap.size<=C):RdR f sz w' v l:=by
 obtain⟨a,cap,rfl,hl,h⟩:=h;refine⟨a,cap,rfl,hl,fun xE=>?_⟩;obtain⟨b,off,rfl,Z,Q⟩:=h xE;exact⟨b,off,rfl,yK Z K.size,fun i c hc=>zf (Q i c hc) K (yK Z hC)⟩
theorem ownR_below {B C:Nat}{w w':World}{v:Value}{l:List α}(h:OwnR f sz B w v l)(K:Below C w w')(hC:w.heap.size<=C):OwnR f sz B w' v l:=by
 obtain⟨a,cap,rfl,hl,h⟩:=h;refine⟨a,cap,rfl,hl,fun xE=>?_⟩;obtain⟨g,rfl,h0,Z,Q,I⟩:=h xE;exact⟨g,rfl,h0,yK Z K.size,fun i c hc=>zf (Q i c hc) K (yK Z hC),zk I K (yK Z hC)⟩
theorem rdR_grown {G:Option Nat}{w w':World}{v:Value}{l:List α}(h:RdR f sz w v l)(F:w.grownBy w' G)(hG:∀g,G=some g->w.heap.size<=g):RdR f sz w' v l:=by
 obtain⟨a,cap,rfl,hl,h⟩:=h;refine⟨a,cap,rfl,hl,fun xE=>?_⟩;obtain⟨b,off,rfl,Z,Q⟩:=h xE;exact⟨b,off,rfl,yK Z F.size,fun i c hc=>zv (Q i c hc) F Z (fun e=>by have:=hG b e.symm;omega)⟩
theorem zj {B:Nat}{w:World}(b:Nat)(K:B<=b):∀(vs:List Value) (o:Nat) (wr:World),Below B w wr->Below B w (wr.setCells b o vs)
 | [],_,_,h=>h
 | v::r,o,wr,h=>by rw[World.setCells];exact zj b K r (o+1) _ (h.setCell (show B<=((Y b o):Addr).block from K) v)
theorem gw (b:Nat):∀(vs:List Value) (o:Nat) (wr:World),(wr.setCells b o vs).heap.size=wr.heap.size
 | [],_,_=>rfl
 | v::r,o,wr=>by rw[World.setCells,gw b r (o+1)];simp[World.setCell]
theorem gI {w:World}{g n t:Nat}{xt:Array Value}(F:w.heap[g]? = some (.cells xt t (0,0)))(hn:n<=xt.size):w.there g 0 n:=fun j hj =>
 ⟨by rw[cell_of_row w g (0+j) xt t (0,0) F,Array.getElem?_eq_getElem (by omega)];rfl,by simp[World.frozen?,F]⟩
theorem flat_get (hf:∀c,(f c).length=sz):∀(l:List α) (i j:Nat) (c:α),l[i]? = some c->j<sz->(l.flatMap f)[i*sz+j]? = (f c)[j]?
 | [],_,_,_,h,_=>by simp at h
 | a::l,0,j,c,h,hj=>by
  simp at h;subst h;rw[List.flatMap_cons,List.getElem?_append_left (by rw[hf];omega)];simp
 | a::l,i+1,j,c,h,hj=>by
  simp at h;rw[List.flatMap_cons,List.getElem?_append_right (by rw[hf,Nat.add_mul];omega),hf,<- flat_get hf l i j c h hj];congr 1;rw[Nat.add_mul];omega
theorem dT (hf:∀c,(f c).length=sz):∀(l:List α),(l.flatMap f).length=l.length*sz
 | []=>by simp
 | a::l=>by rw[List.flatMap_cons,yQ,hf,dT hf l,List.length_cons,Nat.add_mul];omega
theorem gi {B e:Nat}{w:World}{v:Value}{l:List α}(hf:∀c,(f c).length=sz)(hl:l.length<=1073741824)(h:w.ownsRow B e sz v l.length (l.flatMap f)):OwnR f sz B w v l:=by
 rcases h.2 with⟨rfl,h0⟩|⟨g,cap,xt,rfl,K,F,xW,_,hcur,pg⟩
 ·exact⟨none,0,by rw[h0],hl,fun xE=>absurd (List.length_eq_zero_iff.1 h0) xE⟩
 ·have uJ:=Nat.mul_le_mul_right sz xW;refine⟨_,cap,rfl,hl,fun _=>⟨g,rfl,K,(yZ.1 F).1,fun i c hc j u hu=>?_,gI F (by omega)⟩⟩;have hj:j<sz:=by rw[<- hf c];exact(yH.1 hu).1
  have Q:=flat_get hf l i j c hc hj
  have xK:i*sz+j<l.length*sz:=by
   have:=Nat.mul_le_mul_right sz (show i+1<=l.length from(yH.1 hc).1);rw[Nat.add_mul] at this;omega
  rw[<- pg,List.getElem?_take,if_pos xK] at Q;rw[cell_of_row w g _ xt e (0,0) F,Nat.zero_add];simpa using Q.trans hu
end
def qsF (k:Int):Nat->List Od->List Nat
  | _,[]=>[]
  | n,o::r=>if o.ticks=k then n::qsF k (n+1) r else qsF k (n+1) r
theorem qsF_snoc (k:Int)(o:Od):∀(l:List Od) (n:Nat),qsF k n (l ++ [o])=qsF k n l++(if o.ticks=k then[n+l.length] else[])
  | [],n=>by simp[qsF]
  | a::l,n=>by
    rw[List.cons_append,qsF,qsF_snoc k o l,qsF];have:n+1+l.length=n+(a::l).length:=by simp;omega
    rw[this];split <;> simp
theorem fC (k:Int):∀(l:List Od) (n a:Nat),a∈qsF k n l->n<=a/\a<n+l.length/\∃o,l[a-n]? = some o/\o.ticks=k
  | [],n,a,h=>by simp[qsF] at h
  | b::l,n,a,h=>by
    rw[qsF] at h;split at h
    · next K =>
      rcases List.mem_cons.1 h with rfl|h
      · exact⟨Nat.le_refl _,by simp,b,by simp,K⟩
      · obtain⟨Z,Q,o,I,h4⟩:=fC k l (n+1) a h;refine⟨by omega,by simp;omega,o,?_,h4⟩;rw[show a-n=(a-(n+1))+1 by omega];simpa using I
    · obtain⟨Z,Q,o,I,h4⟩:=fC k l (n+1) a h;refine⟨by omega,by simp;omega,o,?_,h4⟩;rw[show a-n=(a-(n+1))+1 by omega];simpa using I
theorem qsF_nodup (k:Int):∀(l:List Od) (n:Nat),(qsF k n l).Nodup
  | [],n=>by simp[qsF]
  | b::l,n=>by
    rw[qsF];split
    · exact List.nodup_cons.2 ⟨fun h=>by have:=(fC k l (n+1) n h).1;omega,qsF_nodup k l _⟩
    · exact qsF_nodup k l _
theorem qsF_nil (k:Int):∀(l:List Od) (n:Nat),(∀o∈l,o.ticks≠k)->qsF k n l = []
  | [],_,_=>rfl
  | b::l,n,h=>by rw[qsF,if_neg (h b (by simp)),qsF_nil k l _ (fun o D=>h o (by simp[D]))]
theorem qsF_map (k:Int)(f:Nat->Od):∀(l:List Od) (n:Nat),(∀i o,l[i]? = some o->f (n+i)=o)->(qsF k n l).map f=l.filter (fun o=>decide (o.ticks=k))
  | [],_,_=>rfl
  | b::l,n,h=>by
    have ih:=qsF_map k f l (n+1) (fun i o D=>by rw[show n+1+i=n+(i+1) by omega];exact h (i+1) o (by simpa using D));have h0:f n=b:=h 0 b (by simp);rw[qsF,List.filter_cons]
    by_cases K:b.ticks=k
    · simp[K,ih,h0]
    · simp[K,ih]
def qs (seq:List Od)(k:Int):List Nat:=qsF k 1 seq
def atK (seq:List Od)(k:Int):List Od:=seq.filter (fun o=>decide (o.ticks=k))
def sumQ:List Od->Int
  | []=>0
  | o::r=>o.left+sumQ r
theorem sumQ_snoc (o:Od):∀l:List Od,sumQ (l ++ [o])=sumQ l+o.left
  | []=>by simp[sumQ]
  | a::l=>by rw[List.cons_append,sumQ,sumQ_snoc o l,sumQ];omega
def Chain (yg:Nat->Nat):Nat->List Nat->Prop
  | v,[]=>v=0
  | v,a::r=>v=a/\0<a/\Chain yg (yg a) r
theorem iU {y y':Nat->Nat}:∀ {l:List Nat} {v:Nat},(∀a∈l,y' a=y a)->Chain y v l->Chain y' v l
  | [],_,_,h=>h
  | a::r,v,hc,⟨Z,Q,I⟩=>⟨Z,Q,by rw[hc a (by simp)];exact iU (fun b K=>hc b (by simp[K])) I⟩
theorem chain_snoc {y:Nat->Nat}{n z:Nat}(hn:0<n)(hy:y n=0):∀ {l:List Nat} {v:Nat},Chain y v l->l.Nodup->l.getLast? = some z->n ∉ l->Chain (upd y z n) v (l ++ [n])
  | [],_,_,_,hz,_=>by simp at hz
  | [a],v,⟨Z,Q,I⟩,_,hz,xE=>by
    simp at hz;subst hz;have hna:n≠a:=fun e=>xE (by simp[e]);exact⟨Z,Q,by rw[zp],hn,by rw[zu _ _ hna,hy];rfl⟩
  | a::b::r,v,⟨Z,Q,I⟩,hd,hz,xE=>by
    have hd':=List.nodup_cons.1 hd;have hz':(b::r).getLast? = some z:=by rw[List.getLast?_cons_cons] at hz;exact hz
    have hza:a≠z:=fun e=>hd'.1 (e ▸ List.mem_of_getLast? hz');refine⟨Z,Q,?_⟩;rw[zu _ _ hza];exact chain_snoc hn hy I hd'.2 hz' (fun h=>xE (by simp[h]))
structure QH (S:TS) (sd:Int) (seq:List Od) (h:Nat):Prop where
  side:(S.nd h).side=sd
  ne:qs seq (S.nd h).ticks ≠ []
  chain:Chain (fun i=>(S.qo i).yg) (S.nd h).el (qs seq (S.nd h).ticks)
  last:(qs seq (S.nd h).ticks).getLast? = some (S.nd h).yo
  qty:(S.nd h).qty=sumQ (atK seq (S.nd h).ticks)
  cnt:(S.nd h).count=(atK seq (S.nd h).ticks).length
structure QI (S:TS) (t:Tr) (sd:Int) (seq:List Od):Prop where
  oc:S.oc=seq.length
  od:∀i o,seq[i]? = some o->(S.qo (1+i)).od=o
  fresh:∀i,S.oc<i->S.qo i=zQo
  q:∀h∈t.hs,QH S sd seq h
  cover:∀o∈seq,∃h∈t.hs,(S.nd h).ticks=o.ticks
theorem ti_zero (s:Bool):TI s zTS .nil:=⟨rfl,by simp[Tr.hs],by simp[Tr.hs],rfl,by simp[Tr.hs],fun _ _=>rfl⟩
theorem qi_zero (sd:Int):QI zTS .nil sd []:=⟨rfl,by simp,fun _ _=>rfl,by simp[Tr.hs],by simp⟩
def TS.lay (S:TS)(o:Od):TS:={ S with oc:=S.oc+1,qo:=upd S.qo (S.oc+1) ⟨o,0⟩ }
def TS.link (S:TS)(h n:Nat)(lf:Int):TS:=
  { S with nd:=upd S.nd h { S.nd h with el:=if (S.nd h).yo=0 then n else(S.nd h).el,yo:=n,qty:=(S.nd h).qty+lf,count:=(S.nd h).count+1 },
           qo:=if (S.nd h).yo=0 then S.qo else upd S.qo (S.nd h).yo { S.qo (S.nd h).yo with yg:=n } }
theorem ti_lay {s:Bool}{S:TS}{t:Tr}(o:Od)(h:TI s S t):TI s (S.lay o) t:=⟨h.rep,h.nodup,h.range,h.len,h.sorted,h.fresh⟩
theorem lC (S:TS)(h n:Nat)(lf:Int)(a:Nat):((S.link h n lf).nd a).ticks=(S.nd a).ticks:=by
  simp only[TS.link,upd];split <;> simp_all
theorem link_tree (S:TS)(h n:Nat)(lf:Int)(a:Nat):((S.link h n lf).nd a).be=(S.nd a).be/\((S.link h n lf).nd a).wo=(S.nd a).wo:=by
  simp only[TS.link,upd];split <;> simp_all
theorem ti_link {s:Bool}{S:TS}{t:Tr}{h:Nat}(n:Nat)(lf:Int)(hi:TI s S t)(hh:h∈t.hs):TI s (S.link h n lf) t:=by
  refine⟨hU (fun a _=>link_tree S h n lf a) hi.rep,hi.nodup,hi.range,hi.len,hi.sorted.imp fun {a b} hab=>?_,fun a ha=>?_⟩
  · rw[lC,lC];exact hab
  · have Z:=(hi.range h hh).2;have Q:S.lc<a:=ha;show upd _ _ _ _ = _;rw[zu _ _ (by omega)];exact hi.fresh a ha
theorem lK {y:Nat->Nat}:∀ {l:List Nat} {v z:Nat},Chain y v l->l.getLast? = some z->0<z
  | [],_,_,_,h=>by simp at h
  | [a],_,_,⟨_,Q,_⟩,h=>by simp at h;omega
  | a::b::r,_,_,⟨_,_,I⟩,h=>lK I (by rw[List.getLast?_cons_cons] at h;exact h)
theorem ir (seq:List Od)(o:Od)(k:Int):qs (seq ++ [o]) k=qs seq k++(if o.ticks=k then[1+seq.length] else[]):=qsF_snoc k o seq 1
theorem atK_snoc (seq:List Od)(o:Od)(k:Int):atK (seq ++ [o]) k=atK seq k++(if o.ticks=k then[o] else[]):=by
  unfold atK;rw[List.filter_append];congr 1
  by_cases h:o.ticks=k <;> simp[h]
theorem qi_link {s:Bool}{S:TS}{t:Tr}{sd:Int}{seq:List Od}{o:Od}{h:Nat}(hi:TI s S t)(hoc:S.oc=seq.length+1)
    (hod:∀i o',(seq ++ [o])[i]? = some o'->(S.qo (1+i)).od=o') (je:∀i,S.oc<i->S.qo i=zQo) (hyn:(S.qo (1+seq.length)).yg=0)
    (hq:∀a∈t.hs,a≠h->QH S sd seq a) (hcov:∀o∈seq,∃h∈t.hs,(S.nd h).ticks=o.ticks)
    (hh:h∈t.hs) (E:(S.nd h).ticks=o.ticks)
    (hH:QH S sd seq h\/((∀o'∈seq,o'.ticks≠o.ticks)/\S.nd h = { zNd with side:=sd,ticks:=o.ticks,be:=(S.nd h).be,wo:=(S.nd h).wo })) :
    QI (S.link h (1+seq.length) o.left) t sd (seq ++ [o]):=by
  have hqlt:∀k a,a∈qs seq k->a<1+seq.length/\0<a:=fun k a ha=>by
    obtain⟨Z,Q,_⟩:=fC k seq 1 a ha;omega
  have hyo:(S.nd h).yo=0\/(0<(S.nd h).yo/\(S.nd h).yo∈qs seq o.ticks):=by
    rcases hH with hH|⟨_,hz⟩
    · have:=hH.last;rw[E] at this;exact .inr ⟨lK hH.chain hH.last,List.mem_of_getLast? this⟩
    · rw[hz];exact .inl rfl
  have hodk:∀i,((S.link h (1+seq.length) o.left).qo i).od=(S.qo i).od:=fun i=>by
    simp only[TS.link];split
    · rfl
    · simp only[upd];split <;> simp_all
  refine⟨?_,fun i o' qR=>by rw[hodk];exact hod i o' qR,fun i qR=>?_,fun a ha=>?_,fun o' qe=>?_⟩
  · show S.oc = _;simp[hoc]
  · have qR:S.oc<i:=qR;simp only[TS.link];split
    · exact je i qR
    · rcases hyo with h0|⟨h0,Z⟩
      · contradiction
      · rw[zu _ _ (by have:=hqlt _ _ Z;omega)];exact je i qR
  · by_cases hah:a=h
    · subst hah;have hnd:(S.link a (1+seq.length) o.left).nd a = { S.nd a with el:=if (S.nd a).yo=0 then(1+seq.length) else(S.nd a).el,yo:=(1+seq.length),qty:=(S.nd a).qty+o.left,count:=(S.nd a).count+1 }:=zp _ _ _
      rcases hH with hH|⟨qZ,hz⟩
      · have jL:=lK hH.chain hH.last;have aE:(S.nd a).yo≠0:=by omega
        have hqq:(S.link a (1+seq.length) o.left).qo=upd S.qo (S.nd a).yo { S.qo (S.nd a).yo with yg:=(1+seq.length) }:=by simp[TS.link,aE]
        constructor
        · rw[hnd];exact hH.side
        · rw[hnd];show qs (seq ++ [o]) (S.nd a).ticks ≠ [];rw[ir,if_pos E.symm];simp
        · rw[hnd];show Chain _ (if (S.nd a).yo=0 then(1+seq.length) else(S.nd a).el) (qs (seq ++ [o]) (S.nd a).ticks)
          rw[if_neg aE,ir,if_pos E.symm];have hc:=chain_snoc (n:=1+seq.length) (by omega) hyn hH.chain (qsF_nodup _ _ _) hH.last (fun h=>by have:=(hqlt _ _ h).1;omega);refine iU (fun b _=>?_) hc;rw[hqq];simp only[upd];split <;> simp_all
        · rw[hnd];show(qs (seq ++ [o]) (S.nd a).ticks).getLast? = some (1+seq.length);rw[ir,if_pos E.symm];simp
        · rw[hnd];show(S.nd a).qty+o.left=sumQ (atK (seq ++ [o]) (S.nd a).ticks);rw[atK_snoc,if_pos E.symm,sumQ_snoc,hH.qty]
        · rw[hnd];show(S.nd a).count+1=((atK (seq ++ [o]) (S.nd a).ticks).length:Int);rw[atK_snoc,if_pos E.symm,hH.cnt];simp
      · have hyz:(S.nd a).yo=0:=by rw[hz];rfl
        have hqz:(S.nd a).qty=0:=by rw[hz];rfl
        have hcz:(S.nd a).count=0:=by rw[hz];rfl
        have ko:(S.nd a).side=sd:=by rw[hz]
        have hqn:qs seq (S.nd a).ticks = []:=by rw[E];exact qsF_nil _ _ _ qZ
        have han:atK seq (S.nd a).ticks = []:=by rw[E];unfold atK;rw[List.filter_eq_nil_iff];intro b K;simpa using qZ b K
        have hqq:(S.link a (1+seq.length) o.left).qo=S.qo:=by simp[TS.link,hyz]
        constructor
        · rw[hnd];exact ko
        · rw[hnd];show qs (seq ++ [o]) (S.nd a).ticks ≠ [];rw[ir,if_pos E.symm];simp
        · rw[hnd];show Chain _ (if (S.nd a).yo=0 then(1+seq.length) else(S.nd a).el) (qs (seq ++ [o]) (S.nd a).ticks)
          rw[if_pos hyz,ir,if_pos E.symm,hqn,hqq];exact⟨rfl,by omega,hyn⟩
        · rw[hnd];show(qs (seq ++ [o]) (S.nd a).ticks).getLast? = some (1+seq.length);rw[ir,if_pos E.symm];simp
        · rw[hnd];show(S.nd a).qty+o.left=sumQ (atK (seq ++ [o]) (S.nd a).ticks);rw[atK_snoc,if_pos E.symm,sumQ_snoc,hqz,han];rfl
        · rw[hnd];show(S.nd a).count+1=((atK (seq ++ [o]) (S.nd a).ticks).length:Int);rw[atK_snoc,if_pos E.symm,hcz,han];simp
    · have hqa:=hq a ha hah;have hnd:(S.link h (1+seq.length) o.left).nd a=S.nd a:=zu _ _ hah
      have xE:¬ o.ticks=(S.nd a).ticks:=by
        intro e;have hp:=hi.sorted
        have:∀ {l:List Nat},l.Pairwise (fun a b=>bt s (S.nd a).ticks (S.nd b).ticks)->a∈l->h∈l->False:=by
          intro l
          induction l with
          | nil=>intro _ h;simp at h
          | cons x r ih =>
            intro hp Z Q;obtain⟨p1,p2⟩:=List.pairwise_cons.1 hp;rcases List.mem_cons.1 Z with rfl|h1' <;> rcases List.mem_cons.1 Q with Q|ah
            · exact hah Q.symm
            · have:=p1 h ah;rw[E,e] at this;exact gu _ _ this
            · subst Q;have:=p1 a h1';rw[E,e] at this;exact gu _ _ this
            · exact ih p2 h1' ah
        exact this hp ha hh
      have hqs:qs (seq ++ [o]) (S.nd a).ticks=qs seq (S.nd a).ticks:=by rw[ir,if_neg xE,List.append_nil]
      have hak:atK (seq ++ [o]) (S.nd a).ticks=atK seq (S.nd a).ticks:=by rw[atK_snoc,if_neg xE,List.append_nil]
      constructor
      · rw[hnd];exact hqa.side
      · rw[hnd,hqs];exact hqa.ne
      · rw[hnd,hqs];refine iU (fun b K=>?_) hqa.chain;rcases hyo with h0|⟨h0,Z⟩
        · simp[TS.link,h0]
        · have hbne:b≠(S.nd h).yo:=by
            rintro rfl;obtain⟨_,_,o1,e1,e2⟩:=fC _ _ _ _ K;obtain⟨_,_,o2,e3,e4⟩:=fC _ _ _ _ Z;rw[e1] at e3;obtain rfl:=Option.some.inj e3;exact xE (e4.symm.trans e2)
          simp only[TS.link];split
          · rfl
          · rw[zu _ _ hbne]
      · rw[hnd,hqs];exact hqa.last
      · rw[hnd,hak];exact hqa.qty
      · rw[hnd,hak];exact hqa.cnt
  · rcases List.mem_append.1 qe with qe|qe
    · obtain⟨b,Z,Q⟩:=hcov o' qe;exact⟨b,Z,by rw[lC];exact Q⟩
    · simp at qe;subst qe;exact⟨h,hh,by rw[lC];exact E⟩
theorem add_found {s:Bool}{S:TS}{t:Tr}{sd:Int}{seq:List Od}{o:Od}{h:Nat}(hi:TI s S t)(hq:QI S t sd seq)(hh:h∈t.hs)(E:(S.nd h).ticks=o.ticks) :
    TI s ((S.lay o).link h (1+seq.length) o.left) t/\QI ((S.lay o).link h (1+seq.length) o.left) t sd (seq ++ [o]):=by
  have hqk:∀i,i≠1+seq.length->(S.lay o).qo i=S.qo i:=fun i qR=>zu _ _ (by rw[hq.oc];omega);have hqn:(S.lay o).qo (1+seq.length)=⟨o,0⟩:=by simp[TS.lay,upd,hq.oc];omega
  have hqh:∀a∈t.hs,QH (S.lay o) sd seq a:=fun a ha=>by
    have:=hq.q a ha;exact⟨this.side,this.ne,iU (fun b K=>by rw[hqk b (by have:=(fC _ _ _ _ K).2.1;omega)]) this.chain,this.last,this.qty,this.cnt⟩
  refine⟨ti_link _ _ (ti_lay o hi) hh,qi_link (ti_lay o hi) (by show S.oc+1 = _;rw[hq.oc]) (fun i o' qR=>?_) (fun i qR=>?_) (by rw[hqn]) (fun a ha _=>hqh a ha) hq.cover hh E (.inl (hqh h hh))⟩
  · by_cases xK:i<seq.length
    · rw[List.getElem?_append_left xK] at qR;rw[hqk _ (by omega)];exact hq.od i o' qR
    · have hlt2:i<(seq ++ [o]).length:=(yH.1 qR).1;have:i=seq.length:=by simp at hlt2;omega
      subst this;simp at qR;subst qR;rw[hqn]
  · have qR:S.oc+1<i:=qR;rw[hqk _ (by rw[<- hq.oc];omega)];exact hq.fresh i (by omega)
theorem add_new {s:Bool}{S:TS}{t:Tr}{seq:List Od}{o:Od}{c:Ctx}{u:Tr}(hi:TI s S t)(hq:QI S t o.side seq)(hw:Way s (S.lay o) t o.ticks c u)(h0:(S.lay o).rd (cZ c)=0) :
    TI s (((S.lay o).grow (cZ c) o.side o.ticks).link (S.lc+1) (1+seq.length) o.left) (plug c (.node (S.lc+1) .nil .nil)) /\
    QI (((S.lay o).grow (cZ c) o.side o.ticks).link (S.lc+1) (1+seq.length) o.left) (plug c (.node (S.lc+1) .nil .nil)) o.side (seq ++ [o])/\(∀o'∈seq,o'.ticks≠o.ticks):=by
  obtain⟨F,ht,qZ⟩:=ti_grow (sd:=o.side) (ti_lay o hi) hw h0;have F:TI s ((S.lay o).grow (cZ c) o.side o.ticks) (plug c (.node (S.lc+1) .nil .nil)):=F;have hhs:(plug c (.node (S.lc+1) .nil .nil)).hs=cl c++(S.lc+1)::cr c:=by rw[gU];simp[Tr.hs]
  have pE:S.lc+1 ∉ cl c++cr c:=by
    rw[<- ht];intro hm;have:=(hi.range _ hm).2;omega
  have hqo:((S.lay o).grow (cZ c) o.side o.ticks).qo=(S.lay o).qo:=(wr_same (S.lay o) _ _).2.2;have hqk:∀i,i≠1+seq.length->(S.lay o).qo i=S.qo i:=fun i qR=>zu _ _ (by rw[hq.oc];omega);have hqn:(S.lay o).qo (1+seq.length)=⟨o,0⟩:=by simp[TS.lay,upd,hq.oc];omega
  have hag:∀b∈t.hs,((S.lay o).grow (cZ c) o.side o.ticks).nd b=((S.lay o).wr (S.lc+1) (cZ c)).nd b:=fun b K=>zu _ _ (fun e=>pE (by rw[<- ht];exact e ▸ K))
  have un:∀b,b∈(plug c (.node (S.lc+1) .nil .nil)).hs->b≠S.lc+1->b∈t.hs:=fun b K xE=>by
    rw[hhs] at K;rw[ht];simp only[List.mem_append,List.mem_cons] at K |-;rcases K with h|h|h
    · exact .inl h
    · exact absurd h xE
    · exact .inr h
  have hnos:∀o'∈seq,o'.ticks≠o.ticks:=fun o' qe e=>by
    obtain⟨b,Z,Q⟩:=hq.cover o' qe;exact qZ b Z (Q.trans e)
  have ue:S.lc+1∈(plug c (.node (S.lc+1) .nil .nil)).hs:=by rw[hhs];simp
  have hnd:((S.lay o).grow (cZ c) o.side o.ticks).nd (S.lc+1) = { zNd with side:=o.side,ticks:=o.ticks }:=by
    show upd _ _ _ _ = _
    have Z:((S.lay o).wr (S.lc+1) (cZ c)).nd (S.lc+1)=zNd:=by
      rw[wr_nd_out (S.lay o) _ c _ pE];exact hi.fresh _ (by omega)
    have Q:(S.lay o).lc+1=S.lc+1:=rfl;rw[Q,zp,Z];rfl
  refine⟨ti_link _ _ F ue,qi_link F ?_ (fun i o' qR=>?_) (fun i qR=>?_) (by rw[hqo,hqn]) (fun a ha xE=>?_) (fun o' qe=>?_) ue (by rw[hnd]) (.inr ⟨hnos,by rw[hnd]⟩),hnos⟩
  · show((S.lay o).wr _ _).oc = _;rw[(wr_same (S.lay o) _ _).2.1];show S.oc+1 = _;rw[hq.oc]
  · rw[hqo]
    by_cases xK:i<seq.length
    · rw[List.getElem?_append_left xK] at qR;rw[hqk _ (by omega)];exact hq.od i o' qR
    · have hlt2:i<(seq ++ [o]).length:=(yH.1 qR).1;have:i=seq.length:=by simp at hlt2;omega
      subst this;simp at qR;subst qR;rw[hqn]
  · have qR:((S.lay o).wr (S.lc+1) (cZ c)).oc<i:=qR;rw[(wr_same (S.lay o) _ _).2.1] at qR;have qR:S.oc+1<i:=qR;rw[hqo,hqk _ (by rw[<- hq.oc];omega)];exact hq.fresh i (by omega)
  · have K:=un a ha xE;have hQ:=hq.q a K;obtain⟨r1,r2,r3,r4,r5⟩:=wr_nd_rest (S.lay o) (S.lc+1) (cZ c) a;have r6:=lQ (S.lay o) (S.lc+1) (cZ c) a;constructor
    · rw[hag a K,r1];exact hQ.side
    · rw[hag a K,r6];exact hQ.ne
    · rw[hag a K,r6,r4,hqo];exact iU (fun b K=>by rw[hqk b (by have:=(fC _ _ _ _ K).2.1;omega)]) hQ.chain
    · rw[hag a K,r6,r5];exact hQ.last
    · rw[hag a K,r6,r2];exact hQ.qty
    · rw[hag a K,r6,r3];exact hQ.cnt
  · obtain⟨b,Z,Q⟩:=hq.cover o' qe;refine⟨b,?_,?_⟩
    · rw[hhs];rw[ht] at Z;simp only[List.mem_append,List.mem_cons] at Z |-;rcases Z with h|h <;> simp[h]
    · rw[hag b Z,lQ];exact Q
theorem add_ready {s:Bool}{S S3:TS}{t:Tr}{seq:List Od}{o:Od}{h:Nat}(hi:TI s S t)(hq:QI S t o.side seq)
    (hc:(h∈t.hs/\((S.lay o).nd h).ticks=o.ticks/\S3=S.lay o)\/(∃c u,Way s (S.lay o) t o.ticks c u/\(S.lay o).rd (cZ c)=0/\h=(S.lay o).lc+1/\S3=(S.lay o).grow (cZ c) o.side o.ticks)) :
    (S3.nd h).yo<1+seq.length/\(S3.nd h).qty=sumQ (atK seq o.ticks)/\(S3.nd h).count=(atK seq o.ticks).length/\S3.lc<=S.lc+1/\h<=S.lc+1 /\
      ∃t',TI s (S3.link h (1+seq.length) o.left) t'/\QI (S3.link h (1+seq.length) o.left) t' o.side (seq ++ [o]):=by
  rcases hc with⟨hh,E,rfl⟩|⟨c,u,hw,h0,rfl,rfl⟩
  · have hQ:=hq.q h hh;have hk':(S.nd h).ticks=o.ticks:=E;have hm:=List.mem_of_getLast? hQ.last;have hr:=hi.range h hh;refine⟨(fC _ _ _ _ hm).2.1,by rw[<- hk'];exact hQ.qty,by rw[<- hk'];exact hQ.cnt,Nat.le_succ _,by omega,t,?_⟩;exact add_found hi hq hh E
  · obtain⟨Z,Q,I⟩:=add_new hi hq hw h0;obtain⟨F,ht,qZ⟩:=ti_grow (sd:=o.side) (ti_lay o hi) hw h0
    have pE:S.lc+1 ∉ cl c++cr c:=by
      rw[<- ht];intro hm;have:=(hi.range _ hm).2;omega
    have hnd:((S.lay o).grow (cZ c) o.side o.ticks).nd (S.lc+1) = { zNd with side:=o.side,ticks:=o.ticks }:=by
      show upd _ _ _ _ = _
      have Z:((S.lay o).wr (S.lc+1) (cZ c)).nd (S.lc+1)=zNd:=by
        rw[wr_nd_out (S.lay o) _ c _ pE];exact hi.fresh _ (by omega)
      have Q:(S.lay o).lc+1=S.lc+1:=rfl;rw[Q,zp,Z];rfl
    have qd:(S.lay o).lc+1=S.lc+1:=rfl;have hak:atK seq o.ticks = []:=by unfold atK;rw[List.filter_eq_nil_iff];intro b K;simpa using I b K
    rw[qd,hnd,hak];exact⟨by show 0 < _;omega,rfl,rfl,Nat.le_refl _,Nat.le_refl _,_,Z,Q⟩
def ahd (s:Bool)(a b:Od):Prop:=bt s a.ticks b.ticks\/(a.ticks=b.ticks/\a.id<b.id)
theorem ahd_irr (s:Bool)(a:Od):¬ ahd s a a:=by
 rintro(h|h)
 ·exact gu _ _ h
 ·omega
theorem ahd_trans {s:Bool}{a b c:Od}(Z:ahd s a b)(Q:ahd s b c):ahd s a c:=by
 rcases Z with Z|⟨e1,Z⟩ <;> rcases Q with Q|⟨e2,Q⟩
 ·exact .inl (bt_trans Z Q)
 ·exact .inl (e2 ▸ Z)
 ·exact .inl (e1 ▸ Q)
 ·exact .inr ⟨e1.trans e2,by omega⟩
theorem ahd_asymm {s:Bool}{a b:Od}(Z:ahd s a b):¬ ahd s b a:=fun Q=>ahd_irr s a (ahd_trans Z Q)
theorem ahd_total {s:Bool}{a b:Od}(h:a.id≠b.id):ahd s a b\/ahd s b a:=by
 rcases bt_total s a.ticks b.ticks with Z|Z|Z
 ·exact .inl (.inl Z)
 ·rcases Int.lt_or_gt_of_ne h with Q|Q
  ·exact .inl (.inr ⟨Z,Q⟩)
  ·exact .inr (.inr ⟨Z.symm,Q⟩)
 ·exact .inr (.inl Z)
def dQ (l:List Od):Prop:=l.Pairwise (fun a b=>a.id<b.id)
def zC (l:List Od)(sd:Int):List Od:=l.filter (fun o=>decide (o.side=sd))
theorem ofSide_snoc (l:List Od)(k:Nat)(c:Od)(h:l[k]? = some c):zC (l.take (k+1)) c.side=zC (l.take k) c.side ++ [c]:=by
 obtain⟨E,rfl⟩:=yH.1 h;unfold zC;rw[List.take_succ_eq_append_getElem E,List.filter_append];simp
theorem ofSide_skip (l:List Od)(k:Nat)(c:Od){sd:Int}(h:l[k]? = some c)(hs:¬ c.side=sd):zC (l.take (k+1)) sd=zC (l.take k) sd:=by
 obtain⟨E,rfl⟩:=yH.1 h;unfold zC;rw[List.take_succ_eq_append_getElem E,List.filter_append];simp[hs]
theorem perm_split (p:Od->Bool):∀l:List Od,List.Perm (l.filter p++l.filter (fun o=>!p o)) l
 | []=>by simp
 | a::l=>by
  have ih:=perm_split p l
  by_cases h:p a=true
  ·simp only[List.filter_cons,h,if_true,Bool.not_true,Bool.false_eq_true,if_false,List.cons_append];exact ih.cons a
  ·simp only[Bool.not_eq_true] at h;simp only[List.filter_cons,h,Bool.false_eq_true,if_false,Bool.not_false,if_true];exact List.perm_middle.trans (ih.cons a)
theorem flat_perm:∀(T:List Int) (seq:List Od),T.Nodup->(∀o∈seq,o.ticks∈T)->List.Perm (T.flatMap (atK seq)) seq
 | [],seq,_,h=>by
  cases seq with
  | nil=>simp
  | cons a r=>exact absurd (h a (by simp)) (by simp)
 | k::T,seq,hd,h=>by
  have hd':=List.nodup_cons.1 hd
  have e:T.flatMap (atK seq)=T.flatMap (atK (seq.filter (fun o=>!decide (o.ticks=k)))):=by
   rw[List.flatMap_def,List.flatMap_def];congr 1;refine List.map_congr_left fun k' hk'=>?_;unfold atK;rw[List.filter_filter];refine List.filter_congr fun o _=>?_
   by_cases Z:o.ticks=k'
   ·have:¬ o.ticks=k:=fun e=>hd'.1 (by rw[<- e,Z];exact hk');simp[Z];rw[<- Z];exact this
   ·simp[Z]
  rw[List.flatMap_cons,e];refine(List.Perm.append_left _ (flat_perm T _ hd'.2 (fun o D=>?_))).trans (perm_split _ seq);simp at D;rcases List.mem_cons.1 (h o D.1) with Z|Z
  ·exact absurd Z D.2
  ·exact Z
theorem flat_sorted {s:Bool}:∀ {T:List Int} {seq:List Od},T.Pairwise (bt s)->dQ seq->(T.flatMap (atK seq)).Pairwise (ahd s)
 | [],_,_,_=>by simp
 | k::T,seq,hT,hr=>by
  obtain⟨p1,p2⟩:=List.pairwise_cons.1 hT;rw[List.flatMap_cons,List.pairwise_append];refine⟨?_,flat_sorted p2 hr,fun a ha b K=>?_⟩
  ·have Z:(atK seq k).Pairwise (fun a b=>a.id<b.id):=List.Pairwise.sublist List.filter_sublist hr;refine Z.imp_of_mem fun {a b} ha K hab=>.inr ⟨?_,hab⟩;simp[atK] at ha K;rw[ha.2,K.2]
  ·simp only[List.mem_flatMap] at K;obtain⟨k',Z,Q⟩:=K;simp[atK] at ha Q;exact .inl (by rw[ha.2,Q.2];exact p1 k' Z)
theorem bt_nodup {s:Bool}{T:List Int}(h:T.Pairwise (bt s)):T.Nodup:=by
 unfold List.Nodup;refine h.imp fun {a b} hab=>?_;rintro rfl;exact gu s a hab
structure IsT (s:Bool) (seq:List Od) (T:List Int):Prop where
 sorted:T.Pairwise (bt s)
 mem:∀k,k∈T ↔ ∃o∈seq,o.ticks=k
theorem isT_of {s:Bool}{S:TS}{t:Tr}{sd:Int}{seq:List Od}(hi:TI s S t)(hq:QI S t sd seq):IsT s seq (t.hs.map fun h=>(S.nd h).ticks):=by
 refine⟨?_,fun k=>⟨fun E=>?_,?_⟩⟩
 ·rw[List.pairwise_map];exact hi.sorted
 ·obtain⟨h,Z,rfl⟩:=List.mem_map.1 E;have:=(hq.q h Z).ne;obtain⟨a,ha⟩:=List.exists_mem_of_ne_nil _ this;obtain⟨_,_,o,I,h4⟩:=fC _ _ _ _ ha;exact⟨o,yP I,h4⟩
 ·rintro⟨o,D,rfl⟩;obtain⟨h,Z,Q⟩:=hq.cover o D;exact List.mem_map.2 ⟨h,Z,Q⟩
def nlevR:List Od->Nat
 | []=>0
 | x::r=>nlevR r+if ∃y∈r,y.side=x.side/\y.ticks=x.ticks then 0 else 1
theorem nlevR_eq:∀(l:List Od) (md B:List Int),md.Nodup->B.Nodup->(∀o∈l,o.side=1\/o.side=2)->(∀k,k∈md ↔ ∃o∈l,o.side=1/\o.ticks=k)->(∀k,k∈B ↔ ∃o∈l,o.side=2/\o.ticks=k)->nlevR l=md.length+B.length
 | [],md,B,_,_,_,hA,hB=>by
  have a0:md = []:=List.eq_nil_iff_forall_not_mem.2 fun k E=>by obtain⟨o,h,_⟩:=(hA k).1 E;simp at h
  have b0:B = []:=List.eq_nil_iff_forall_not_mem.2 fun k E=>by obtain⟨o,h,_⟩:=(hB k).1 E;simp at h
  rw[a0,b0];rfl
 | x::l,md,B,dA,dB,hs,hA,hB=>by
  rw[nlevR];have hs':∀o∈l,o.side=1\/o.side=2:=fun o D=>hs o (by simp[D])
  by_cases he:∃y∈l,y.side=x.side/\y.ticks=x.ticks
  ·rw[if_pos he];obtain⟨y,hy,e1,e2⟩:=he;refine nlevR_eq l md B dA dB hs' (fun k=>(hA k).trans ⟨?_,?_⟩) (fun k=>(hB k).trans ⟨?_,?_⟩)
   ·rintro⟨o,D,Z,Q⟩;rcases List.mem_cons.1 D with rfl|D
    ·exact⟨y,hy,e1.trans Z,e2.trans Q⟩
    ·exact⟨o,D,Z,Q⟩
   ·rintro⟨o,D,h⟩;exact⟨o,by simp[D],h⟩
   ·rintro⟨o,D,Z,Q⟩;rcases List.mem_cons.1 D with rfl|D
    ·exact⟨y,hy,e1.trans Z,e2.trans Q⟩
    ·exact⟨o,D,Z,Q⟩
   ·rintro⟨o,D,h⟩;exact⟨o,by simp[D],h⟩
  ·rw[if_neg he];have qZ:∀y∈l,y.side=x.side->y.ticks≠x.ticks:=fun y hy Z Q=>he ⟨y,hy,Z,Q⟩;rcases hs x (by simp) with hx|hx
   ·have hxA:x.ticks∈md:=(hA _).2 ⟨x,by simp,hx,rfl⟩;have:=nlevR_eq l (md.erase x.ticks) B (dA.erase _) dB hs' (fun k=>?_) (fun k=>(hB k).trans ⟨?_,?_⟩)
    ·rw[List.length_erase_of_mem hxA] at this;have hp:0<md.length:=List.length_pos_of_mem hxA;omega
    ·rw[List.Nodup.mem_erase_iff dA,hA];constructor
     ·rintro⟨E,o,D,Z,Q⟩;rcases List.mem_cons.1 D with rfl|D
      ·exact absurd Q.symm E
      ·exact⟨o,D,Z,Q⟩
     ·rintro⟨o,D,Z,Q⟩;exact⟨fun e=>qZ o D (Z.trans hx.symm) (Q.trans e),o,by simp[D],Z,Q⟩
    ·rintro⟨o,D,Z,Q⟩;rcases List.mem_cons.1 D with rfl|D
     ·omega
     ·exact⟨o,D,Z,Q⟩
    ·rintro⟨o,D,h⟩;exact⟨o,by simp[D],h⟩
   ·have hxB:x.ticks∈B:=(hB _).2 ⟨x,by simp,hx,rfl⟩;have:=nlevR_eq l md (B.erase x.ticks) dA (dB.erase _) hs' (fun k=>(hA k).trans ⟨?_,?_⟩) (fun k=>?_)
    ·rw[List.length_erase_of_mem hxB] at this;have hp:0<B.length:=List.length_pos_of_mem hxB;omega
    ·rintro⟨o,D,Z,Q⟩;rcases List.mem_cons.1 D with rfl|D
     ·omega
     ·exact⟨o,D,Z,Q⟩
    ·rintro⟨o,D,h⟩;exact⟨o,by simp[D],h⟩
    ·rw[List.Nodup.mem_erase_iff dB,hB];constructor
     ·rintro⟨E,o,D,Z,Q⟩;rcases List.mem_cons.1 D with rfl|D
      ·exact absurd Q.symm E
      ·exact⟨o,D,Z,Q⟩
     ·rintro⟨o,D,Z,Q⟩;exact⟨fun e=>qZ o D (Z.trans hx.symm) (Q.trans e),o,by simp[D],Z,Q⟩
def nlev (l:List Od):Nat:=nlevR l.reverse
theorem nlev_snoc (l:List Od)(x:Od):nlev (l ++ [x])=nlev l+if ∃y∈l,y.side=x.side/\y.ticks=x.ticks then 0 else 1:=by
 unfold nlev;rw[List.reverse_append];simp[nlevR]
theorem nlev_le (l:List Od):nlev l<=l.length:=by
 have:∀l:List Od,nlevR l<=l.length:=by
  intro l;induction l with
  | nil=>simp[nlevR]
  | cons a r ih=>rw[nlevR];split <;> simp <;> omega
 unfold nlev;have:=this l.reverse;simpa using this
theorem nlev_eq {l:List Od}{md B:List Int}(hs:∀o∈l,o.side=1\/o.side=2)(hA:IsT true (zC l 1) md)(hB:IsT false (zC l 2) B):nlev l=md.length+B.length:=by
 refine nlevR_eq _ md B (bt_nodup hA.sorted) (bt_nodup hB.sorted) (fun o D=>hs o (by simpa using D)) (fun k=>(hA.mem k).trans ?_) (fun k=>(hB.mem k).trans ?_)
 ·simp[zC,and_assoc]
 ·simp[zC,and_assoc]
def ik (s:Bool)(l:List Od)(sd:Int)(i:Nat)(o:Od):Prop:=l[i]? = some o/\o.side=sd/\∀j o',l[j]? = some o'->o'.side=sd->j≠i->ahd s o o'
theorem front_unique {s:Bool}{l:List Od}{sd:Int}{i j:Nat}{o o':Od}(h:ik s l sd i o)(h':ik s l sd j o'):i=j/\o=o':=by
 obtain⟨a1,a2,a3⟩:=h;obtain⟨b1,b2,b3⟩:=h'
 have pd:i=j:=by
  rcases Nat.decEq i j with xE|rfl
  ·exact absurd (a3 j o' b1 b2 (fun e=>xE e.symm)) (ahd_asymm (b3 i o a1 a2 xE))
  ·rfl
 subst pd;rw[a1] at b1;exact⟨rfl,Option.some.inj b1⟩
theorem queue_front {s:Bool}{l:List Od}{sd:Int}{T:List Int}(hr:dQ l)(hT:IsT s (zC l sd) T){o:Od}(D:(T.flatMap (atK (zC l sd))).head? = some o) :
  ∃i,ik s l sd i o:=by
 have hrs:dQ (zC l sd):=List.Pairwise.sublist List.filter_sublist hr;have hp:=flat_perm T (zC l sd) (bt_nodup hT.sorted) (fun o D=>(hT.mem _).2 ⟨o,D,rfl⟩);have bh:=flat_sorted hT.sorted hrs;generalize T.flatMap (atK (zC l sd))=h2 at *;cases h2 with
 | nil=>simp at D
 | cons a r =>
  simp at D;subst D;have hm:a∈zC l sd:=hp.mem_iff.1 (by simp);simp[zC] at hm;obtain⟨i,hi⟩:=List.mem_iff_getElem?.1 hm.1;refine⟨i,hi,hm.2,fun j o' hj hs xE=>?_⟩;have hm':o'∈a::r:=hp.mem_iff.2 (by simp[zC];exact⟨yP hj,hs⟩);rcases List.mem_cons.1 hm' with rfl|hm'
  ·exfalso;obtain⟨Z,e1⟩:=yH.1 hi;obtain⟨Q,e2⟩:=yH.1 hj;have hp2:=List.pairwise_iff_getElem.1 hr;rcases Nat.lt_or_gt_of_ne xE with h|h
   ·have:=hp2 j i Q Z h;rw[e1,e2] at this;omega
   ·have:=hp2 i j Z Q h;rw[e1,e2] at this;omega
  ·exact(List.pairwise_cons.1 bh).1 o' hm'
theorem queue_none {s:Bool}{l:List Od}{sd:Int}{T:List Int}(hT:IsT s (zC l sd) T)(D:(T.flatMap (atK (zC l sd))).head? = none):∀o∈l,o.side≠sd:=by
 have hp:=flat_perm T (zC l sd) (bt_nodup hT.sorted) (fun o D=>(hT.mem _).2 ⟨o,D,rfl⟩);rw[List.head?_eq_none_iff] at D;rw[D] at hp;have:=List.nil_perm.1 hp;intro o Z Q;have hm:o∈zC l sd:=by simp[zC];exact⟨Z,Q⟩
 rw[this] at hm;simp at hm
def Od.vs (o:Od):List Value:=(yx o.id o.side o.ticks o.left o.life o.tag)
theorem Od.len (o:Od):o.vs.length=6:=rfl
def Od.val (o:Od):Value:=.agg (yx o.id o.side o.ticks o.left o.life o.tag).toArray
def Nd.vs (n:Nd):List Value:=[H n.side,H n.ticks,H n.qty,H n.count,H n.be,H n.wo,H n.el,H n.yo]
def Qo.vs (q:Qo):List Value:=[H q.od.id,H q.od.side,H q.od.ticks,H q.od.left,H q.od.life,yl q.od.tag,H q.yg]
structure TM (T:TypeId) (w:World) (b:Nat) (S:TS):Prop where
  root:w.cell? ⟨b,0,none⟩=some (.int .i64 S.root)
  lc:w.cell? ⟨b,1,none⟩=some (.int .i64 S.lc)
  nd:∀i,i<21->w.rangeAt b (2+i*8) (S.nd i).vs
  oc:w.cell? ⟨b,170,none⟩=some (.int .i64 S.oc)
  qo:∀i,i<21->w.rangeAt b (171+i*7) (S.qo i).vs
  fr:∀o,w.frozen? ⟨b,o,none⟩=false
  obj:∃cur,w.heap[b]? = some (.cells cur T (0,0))
theorem gT {w:World}{b o:Nat}{v:Value}{T:TypeId}(h:∃xt,w.heap[b]? = some (.cells xt T (0,0))):∃xt,(w.setCell (Y b o) v).heap[b]? = some (.cells xt T (0,0)):=by
  obtain⟨xt,h⟩:=h;exact⟨xt.setIfInBounds o v,by simp[World.setCell,Array.getElem?_modify,h]⟩
theorem tm_lt {w:World}{b:Nat}{S:TS}{T:TypeId}(h:TM T w b S):b<w.heap.size:=yL w _ h.root
theorem eC {w w':World}{b:Nat}{S:TS}{T:TypeId}(h:TM T w b S)(K:w'.heap[b]? = w.heap[b]?):TM T w' b S:=
  ⟨(yR (a:=(Y b 0)) K).trans h.root,(yR (a:=(Y b 1)) K).trans h.lc,
   fun i hi j v hv=>(yR (a:=(Y b (2+i*8+j))) K).trans (h.nd i hi j v hv),(yR (a:=(Y b 170)) K).trans h.oc,
   fun i hi j v hv=>(yR (a:=(Y b (171+i*7+j))) K).trans (h.qo i hi j v hv),fun o=>(World.frozen?_of_block (a:=(Y b o)) K).trans (h.fr o),by rw[K];exact h.obj⟩
theorem gR {w w':World}{b C:Nat}{S:TS}{T:TypeId}(h:TM T w b S)(K:Below C w w')(hC:b<C):TM T w' b S:=eC h (K.block b hC)
theorem iP {w w':World}{b:Nat}{G:Option Nat}{S:TS}{T:TypeId}(h:TM T w b S)(F:w.grownBy w' G)(xE:some b≠G):TM T w' b S:=eC h (F.block b (tm_lt h) xE)
theorem fZ {w:World}{b o n:Nat}{v:Value}{cs:List Value}(h:w.rangeAt b o cs)(hn:n<o\/o+cs.length<=n):(w.setCell (Y b n) v).rangeAt b o cs:=fun j u hu=>by
  have hj:=(yH.1 hu).1;rw[yM _ _ _ _ (zV (by omega))];exact h j u hu
theorem lH {w:World}{b o j0:Nat}{v:Value}{cs:List Value}(h:w.rangeAt b o cs)(ax:j0<cs.length):(w.setCell (Y b (o+j0)) v).rangeAt b o (cs.set j0 v):=fun j u hu=>by
  by_cases hj:j=j0
  · subst hj;rw[List.getElem?_set_self ax] at hu;obtain rfl:=Option.some.inj hu;exact yN _ _ _ (h j _ (yI ax))
  · rw[yX (fun e=>hj e.symm)] at hu;rw[yM _ _ _ _ (zV (by omega))];exact h j u hu
theorem fy {w:World}{b o n:Nat}{v u:Value}(h:w.cell? (Y b o)=some u)(hn:o≠n):(w.setCell (Y b n) v).cell? (Y b o)=some u:=by
  rw[yM _ _ _ _ (zV (by omega))];exact h
theorem Nd.len (n:Nd):n.vs.length=8:=rfl
theorem Qo.len (n:Qo):n.vs.length=7:=rfl
theorem tm_root {w:World}{b:Nat}{S:TS}{T:TypeId}(h:TM T w b S)(n:Nat):TM T (w.setCell (Y b 0) (H n)) b { S with root:=n }:=
  ⟨yN _ _ _ h.root,fy h.lc (by omega),fun i hi=>fZ (h.nd i hi) (by omega),fy h.oc (by omega),fun i hi=>fZ (h.qo i hi) (by omega),fun o=>by rw[World.frozen?_setCell];exact h.fr o,gT h.obj⟩
theorem tm_lc {w:World}{b:Nat}{S:TS}{T:TypeId}(h:TM T w b S)(n:Nat):TM T (w.setCell (Y b 1) (H n)) b { S with lc:=n }:=
  ⟨fy h.root (by omega),yN _ _ _ h.lc,fun i hi=>fZ (h.nd i hi) (by omega),fy h.oc (by omega),fun i hi=>fZ (h.qo i hi) (by omega),fun o=>by rw[World.frozen?_setCell];exact h.fr o,gT h.obj⟩
theorem tm_oc {w:World}{b:Nat}{S:TS}{T:TypeId}(h:TM T w b S)(n:Nat):TM T (w.setCell (Y b 170) (H n)) b { S with oc:=n }:=
  ⟨fy h.root (by omega),fy h.lc (by omega),fun i hi=>fZ (h.nd i hi) (by rw[Nd.len];omega),yN _ _ _ h.oc,fun i hi=>fZ (h.qo i hi) (by omega),fun o=>by rw[World.frozen?_setCell];exact h.fr o,gT h.obj⟩
theorem dX {w:World}{b:Nat}{S:TS}{T:TypeId}(h:TM T w b S)(i0 j0:Nat)(uo:i0<21)(ax:j0<8)(v:Value)(n':Nd)(hn:n'.vs=(S.nd i0).vs.set j0 v)(o:Nat)(D:o=2+i0*8+j0) :
    TM T (w.setCell (Y b o) v) b { S with nd:=upd S.nd i0 n' }:=by
  subst D;refine⟨fy h.root (by omega),fy h.lc (by omega),fun i hi=>?_,fy h.oc (by omega),fun i hi=>fZ (h.qo i hi) (by omega),fun o=>by rw[World.frozen?_setCell];exact h.fr o,gT h.obj⟩
  by_cases hii:i=i0
  · subst hii;show World.rangeAt _ _ _ (upd S.nd i n' i).vs;rw[zp,hn];exact lH (h.nd i hi) ax
  · show World.rangeAt _ _ _ (upd S.nd i0 n' i).vs;rw[zu _ _ hii];exact fZ (h.nd i hi) (by rw[Nd.len];omega)
theorem tm_qo {w:World}{b:Nat}{S:TS}{T:TypeId}(h:TM T w b S)(i0 j0:Nat)(uo:i0<21)(ax:j0<7)(v:Value)(n':Qo)(hn:n'.vs=(S.qo i0).vs.set j0 v)(o:Nat)(D:o=171+i0*7+j0) :
    TM T (w.setCell (Y b o) v) b { S with qo:=upd S.qo i0 n' }:=by
  subst D;refine⟨fy h.root (by omega),fy h.lc (by omega),fun i hi=>fZ (h.nd i hi) (by rw[Nd.len];omega),fy h.oc (by omega),fun i hi=>?_,fun o=>by rw[World.frozen?_setCell];exact h.fr o,gT h.obj⟩
  by_cases hii:i=i0
  · subst hii;show World.rangeAt _ _ _ (upd S.qo i n' i).vs;rw[zp,hn];exact lH (h.qo i hi) ax
  · show World.rangeAt _ _ _ (upd S.qo i0 n' i).vs;rw[zu _ _ hii];exact fZ (h.qo i hi) (by rw[Qo.len];omega)
theorem zT {w:World}{b o:Nat}{n:Nd}(h:w.rangeAt b o n.vs) :
    w.cell? (Y b o)=some (H n.side)/\w.cell? (Y b (o+1))=some (H n.ticks)/\w.cell? (Y b (o+2))=some (H n.qty)/\w.cell? (Y b (o+3))=some (H n.count) /\
    w.cell? (Y b (o+4))=some (H n.be)/\w.cell? (Y b (o+5))=some (H n.wo)/\w.cell? (Y b (o+6))=some (H n.el)/\w.cell? (Y b (o+7))=some (H n.yo):=
  ⟨h 0 _ rfl,h 1 _ rfl,h 2 _ rfl,h 3 _ rfl,h 4 _ rfl,h 5 _ rfl,h 6 _ rfl,h 7 _ rfl⟩
theorem iK {w:World}{b o:Nat}{n:Qo}(h:w.rangeAt b o n.vs) :
    w.cell? (Y b o)=some (H n.od.id)/\w.cell? (Y b (o+1))=some (H n.od.side)/\w.cell? (Y b (o+2))=some (H n.od.ticks)/\w.cell? (Y b (o+3))=some (H n.od.left) /\
    w.cell? (Y b (o+4))=some (H n.od.life)/\w.cell? (Y b (o+5))=some (yl n.od.tag)/\w.cell? (Y b (o+6))=some (H n.yg):=
  ⟨h 0 _ rfl,h 1 _ rfl,h 2 _ rfl,h 3 _ rfl,h 4 _ rfl,h 5 _ rfl,h 6 _ rfl⟩
theorem zL {w:World}{b o:Nat}{n:Od}(h:w.rangeAt b o n.vs) :
    w.cell? (Y b o)=some (H n.id)/\w.cell? (Y b (o+1))=some (H n.side)/\w.cell? (Y b (o+2))=some (H n.ticks)/\w.cell? (Y b (o+3))=some (H n.left) /\
    w.cell? (Y b (o+4))=some (H n.life)/\w.cell? (Y b (o+5))=some (yl n.tag):=
  ⟨h 0 _ rfl,h 1 _ rfl,h 2 _ rfl,h 3 _ rfl,h 4 _ rfl,h 5 _ rfl⟩
def Cur.off:Cur->Nat
  | .root=>0
  | .be h=>2+h*8+4
  | .wo h=>2+h*8+5
def Cur.ok:Cur->Prop
  | .root=>True
  | .be h=>h<21
  | .wo h=>h<21
theorem cur_cell {w:World}{b:Nat}{S:TS}{T:TypeId}(h:TM T w b S)(c:Cur)(hc:c.ok):w.cell? (Y b c.off)=some (H (S.rd c)):=by
  cases c with
  | root=>exact h.root
  | be a=>exact(zT (h.nd a hc)).2.2.2.2.1
  | wo a=>exact(zT (h.nd a hc)).2.2.2.2.2.1
theorem tm_cur {w:World}{b:Nat}{S:TS}{T:TypeId}(h:TM T w b S)(c:Cur)(hc:c.ok)(n:Nat):TM T (w.setCell (Y b c.off) (H n)) b (S.wr n c):=by
  cases c with
  | root=>exact tm_root h n
  | be a=>exact dX h a 4 hc (by omega) (H n) { S.nd a with be:=n } rfl _ rfl
  | wo a=>exact dX h a 5 hc (by omega) (H n) { S.nd a with wo:=n } rfl _ rfl
theorem gG {α:Type}(f:Nat->α)(i:Nat)(x y:α):upd (upd f i x) i y=upd f i y:=by
  funext j;simp only[upd];split <;> rfl
theorem zm (w:World)(cs:List Value)(t:TypeId):(w.alloc (Obj.cells cs.toArray t)).rangeAt w.heap.size 0 cs:=fun j u h=>by
  rw[cell_of_row _ w.heap.size (0+j) cs.toArray t (0,0) (heap_alloc_new w _)];simpa using h
theorem zi (w:World)(o:Obj):(w.alloc o).heap.size=w.heap.size+1:=by simp
theorem gr_drew {a w:World}{G:Option Nat}(h:a.grownBy w G):a.grownBy w.drew G:=⟨h.os,h.tape,h.output,h.size,h.block⟩
theorem ej {P:Program}{cB:Array Oper}{C:World->Prop}{h2:Act->Prop}{a:Act}{o:Oper}{rest:List Oper}{v:Value}(Z:Region.wanted o (yielded cB a.tmps)=true)(Q:∀w',C w'->o.quietAt P a C w' v)
    (I:∀hb:Act->Prop,(∀a,wpQuiet P cB C h2 rest a->hb a)->hb (a.put o.dst v)):wpQuiet P cB C h2 (o::rest) a:=
  wpQuiet_step fun hb hK=>by rw[if_pos Z];exact⟨v,Q,I hb hK⟩
theorem ix {P:Program}{id:Nat}{h2:Exit->Act->World->Prop}{a:Act}{w W:World}{l:List Oper}(hm:P.follows .mixedOrders=true)(hB:Region.lexB .any l.toArray=true)(F:W.grownBy w none)
    (h:wpQuiet P l.toArray (fun w'=>W.grownBy w' none) (fun a'=>∀w',W.grownBy w' none->h2 .normal a' w') l a):(Code.region id l.toArray true).wp P h2 a w:=
  wp_region_quiet (C:=fun w'=>W.grownBy w' none) hm hB ⟨F.os,F.tape,F.output,F.size,F.block⟩ (by simpa using h)
theorem zW {a w:World}{b:Nat}(h:a.grownBy w (some b))(o:Nat)(v:Value):a.grownBy (w.setCell (Y b o) v) (some b):=
  ⟨h.os,h.tape,h.output,by rw[World.setCell];simpa using h.size,fun k E xE=>(yT w _ _ k (fun e=>xE (by rw[e]))).trans (h.block k E xE)⟩
theorem grow_eq (S:TS)(cu:Cur)(o:Od)(m:Nat)(hm:m=S.lc+1) :
    ({ root:=({ S with lc:=m }.wr m cu).root,lc:=({ S with lc:=m }.wr m cu).lc,oc:=({ S with lc:=m }.wr m cu).oc,
       nd:=upd ({ S with lc:=m }.wr m cu).nd m { (({ S with lc:=m }.wr m cu).nd m) with side:=o.side,ticks:=o.ticks,qty:=0,count:=0 },qo:=({ S with lc:=m }.wr m cu).qo }:TS)=S.grow cu o.side o.ticks:=by
  subst hm;cases cu <;> rfl
def LFI (s:Bool)(b:Nat)(S:TS)(t:Tr)(kk:Int)(W:World)(k:Nat)(p:Value)(wr:World):Prop:=
  ∃c u,p=h3 b ((cZ c).off)/\u.hs.length<=k/\Way s S t kk c u/\W.grownBy wr none
def LFEnd (s:Bool)(T:TypeId)(b:Nat)(S:TS)(t:Tr)(o:Od)(w:World)(h:Nat)(w':World):Prop:=
  ∃(S':TS),TM T w' b S'/\w.grownBy w' (some b) /\
    ((h∈t.hs/\(S.nd h).ticks=o.ticks/\S'=S)\/(∃c u,Way s S t o.ticks c u/\S.rd (cZ c)=0/\h=S.lc+1/\S'=S.grow (cZ c) o.side o.ticks))
theorem cur_ok {s:Bool}{S:TS}{t:Tr}{k:Int}{c:Ctx}{u:Tr}(hi:TI s S t)(h:Way s S t k c u)(qd:S.lc<20):(cZ c).ok:=by
  have hm:∀a∈cl c++cr c,a<21:=fun a ha=>by
    have:=hi.range a (by rw[h.plug,gU];simp at ha |-;rcases ha with h|h <;> simp[h]);omega
  match c,hm with
  | [],_=>trivial
  | (true,a,r)::c,hm=>exact hm a (by simp[cr])
  | (false,a,l)::c,hm=>exact hm a (by simp[cl])
theorem tm_put {w:World}{b:Nat}{S:TS}{T:TypeId}(h:TM T w b S)(i:Nat)(hi:i<21)(o:Od) :
    TM T (((((((w.setCell (Y b (171+i*7)) (H o.id)).setCell (Y b (171+i*7+1)) (H o.side)).setCell (Y b (171+i*7+2)) (H o.ticks)).setCell (Y b (171+i*7+3)) (H o.left)).setCell
      (Y b (171+i*7+4)) (H o.life)).setCell (Y b (171+i*7+5)) (yl o.tag)).setCell (Y b (171+i*7+6)) (H 0)) b { S with qo:=upd S.qo i ⟨o,0⟩ }:=by
  have h0:=tm_qo h i 0 hi (by omega) (H o.id) { (TS.qo _ i) with od:={ (TS.qo _ i).od with id:=o.id } } rfl _ rfl;have Z:=tm_qo h0 i 1 hi (by omega) (H o.side) { (TS.qo _ i) with od:={ (TS.qo _ i).od with side:=o.side } } rfl _ rfl;have Q:=tm_qo Z i 2 hi (by omega) (H o.ticks) { (TS.qo _ i) with od:={ (TS.qo _ i).od with ticks:=o.ticks } } rfl _ rfl;have I:=tm_qo Q i 3 hi (by omega) (H o.left) { (TS.qo _ i) with od:={ (TS.qo _ i).od with left:=o.left } } rfl _ rfl;have h4:=tm_qo I i 4 hi (by omega) (H o.life) { (TS.qo _ i) with od:={ (TS.qo _ i).od with life:=o.life } } rfl _ rfl;have h5:=tm_qo h4 i 5 hi (by omega) (yl o.tag) { (TS.qo _ i) with od:={ (TS.qo _ i).od with tag:=o.tag } } rfl _ rfl;have h6:=tm_qo h5 i 6 hi (by omega) (H 0) { (TS.qo _ i) with yg:=0 } rfl _ rfl;simp only[gG,zp] at h6;exact h6
theorem gr_put {w:World}{b:Nat}(o:Od)(i:Nat) :
    w.grownBy (((((((w.setCell (Y b (171+i*7)) (H o.id)).setCell (Y b (171+i*7+1)) (H o.side)).setCell (Y b (171+i*7+2)) (H o.ticks)).setCell (Y b (171+i*7+3)) (H o.left)).setCell
      (Y b (171+i*7+4)) (H o.life)).setCell (Y b (171+i*7+5)) (yl o.tag)).setCell (Y b (171+i*7+6)) (H 0)) (some b):=
  zW (zW (zW (zW (zW (zW (zW (yS _ _) _ _) _ _) _ _) _ _) _ _) _ _) _ _
theorem lf_lt {s:Bool}{T:TypeId}{b:Nat}{S:TS}{t:Tr}{o:Od}{w w':World}{h:Nat}(he:LFEnd s T b S t o w h w')(hi:TI s S t)(qd:S.lc<20):(h:Int)<21:=by
  obtain⟨S',_,_,⟨Z,_,_⟩|⟨c,u,_,_,Z,_⟩⟩:=he
  · have:=(hi.range h Z).2;omega
  · omega
theorem link_eq0 (S:TS)(h m:Nat)(lf:Int)(hy:(S.nd h).yo=0) :
    ({ S with nd:=upd S.nd h { (S.nd h) with qty:=(S.nd h).qty+lf,count:=(S.nd h).count+1,el:=m,yo:=m } }:TS)=S.link h m lf:=by
  simp[TS.link,hy]
theorem link_eq1 (S:TS)(h m:Nat)(lf:Int)(hy:¬ (S.nd h).yo=0) :
    ({ S with nd:=upd S.nd h { (S.nd h) with qty:=(S.nd h).qty+lf,count:=(S.nd h).count+1,yo:=m },qo:=upd S.qo (S.nd h).yo { S.qo (S.nd h).yo with yg:=m } }:TS)=S.link h m lf:=by
  simp[TS.link,hy]
theorem gg {a w w':World}{G:Option Nat}(h:a.grownBy w G)(Z:w'.os=w.os)(Q:w'.tape=w.tape)(I:w'.output=w.output)(h4:w'.heap=w.heap):a.grownBy w' G:=
  ⟨Z.trans h.os,Q.trans h.tape,I.trans h.output,by rw[h4];exact h.size,fun k E xE=>by rw[h4];exact h.block k E xE⟩
def dI (T:TypeId)(s:Bool)(w:World)(b:Nat)(sd:Int)(seq:List Od):Prop:=∃S t,TM T w b S/\TI s S t/\QI S t sd seq/\S.lc<=seq.length
theorem tm_zero (w:World)(h1:Array Value)(T:TypeId)(h0:h1[0]? = some (H 0))(Z:h1[1]? = some (H 0))(Q:∀i,i<21->(h1.toList.drop (2+i*8)).take 8=zNd.vs)(I:h1[170]? = some (H 0))(h4:∀i,i<21->(h1.toList.drop (171+i*7)).take 7=zQo.vs) :
    TM T (w.alloc (Obj.cells h1 T)) w.heap.size zTS:=by
  have hh:=heap_alloc_new w (Obj.cells h1 T);have xp:∀o,(w.alloc (Obj.cells h1 T)).cell? (yr w o)=h1[o]?:=fun o=>cell_of_row _ w.heap.size o h1 T (0,0) hh
  have xN:∀(o n:Nat) (cs:List Value),(h1.toList.drop o).take n=cs->(w.alloc (Obj.cells h1 T)).rangeAt w.heap.size o cs:=fun o n cs oZ j v hv=>by
    rw[xp,<- hv,<- oZ,List.getElem?_take,List.getElem?_drop,Array.getElem?_toList];rw[<- oZ,List.getElem?_take] at hv;split
    · rfl
    · next hj=>rw[if_neg hj] at hv;cases hv
  exact⟨(xp 0).trans h0,(xp 1).trans Z,fun i hi=>xN _ 8 _ (Q i hi),(xp 170).trans I,fun i hi=>xN _ 7 _ (h4 i hi),fun o=>by simp only[World.frozen?,hh];simp,h1,hh⟩
theorem zI {T:TypeId}{s:Bool}{w w':World}{b:Nat}{sd:Int}{seq:List Od}(h:dI T s w b sd seq)(K:w'.heap[b]? = w.heap[b]?):dI T s w' b sd seq:=by
  obtain⟨S,t,Z,Q⟩:=h;exact⟨S,t,eC Z K,Q⟩
theorem ed {T:TypeId}{s:Bool}{w:World}{b:Nat}{sd:Int}{seq:List Od}(h:dI T s w b sd seq):b<w.heap.size:=by
  obtain⟨S,t,Z,_⟩:=h;exact tm_lt Z
theorem sumL_bound:∀l:List Od,(∀o∈l,0<=o.left/\o.left<=1000000)->0<=sumQ l/\sumQ l<=1000000*l.length
  | [],_=>by simp[sumQ]
  | a::l,h=>by
    have Z:=h a (by simp);have Q:=sumL_bound l (fun o D=>h o (by simp[D]));simp only[sumQ,List.length_cons];omega
def insT (s:Bool)(k:Int):List Int->List Int
 | []=>[k]
 | a::r=>if bt s k a then k::a::r else if k=a then a::r else a::insT s k r
theorem insT_mem (s:Bool)(k x:Int):∀T:List Int,x∈insT s k T ↔ x=k\/x∈T
 | []=>by simp[insT]
 | a::r=>by
  rw[insT];split
  ·simp
  ·split
   ·next h=>subst h;simp
   ·simp[insT_mem s k x r];constructor
    ·rintro(h|h|h) <;> simp[h]
    ·rintro(h|h|h) <;> simp[h]
theorem insT_sorted (s:Bool)(k:Int):∀T:List Int,T.Pairwise (bt s)->(insT s k T).Pairwise (bt s)
 | [],_=>by simp[insT]
 | a::r,h=>by
  obtain⟨p1,p2⟩:=List.pairwise_cons.1 h;rw[insT];split
  ·next E=>exact List.pairwise_cons.2 ⟨fun x hx=>by
    rcases List.mem_cons.1 hx with rfl|hx
    ·exact E
    ·exact bt_trans E (p1 x hx),h⟩
  ·next E =>
   split
   ·exact h
   ·next xE =>
    refine List.pairwise_cons.2 ⟨fun x hx=>?_,insT_sorted s k r p2⟩;rcases(insT_mem s k x r).1 hx with rfl|hx
    ·rcases bt_total s x a with Z|Z|Z
     ·exact absurd Z E
     ·exact absurd Z xE
     ·exact Z
    ·exact p1 x hx
def tks (s:Bool):List Od->List Int
 | []=>[]
 | o::r=>insT s o.ticks (tks s r)
theorem eG (s:Bool):∀seq:List Od,IsT s seq (tks s seq)
 | []=>⟨by simp[tks],by simp[tks]⟩
 | o::r=>by
  have ih:=eG s r;refine⟨insT_sorted s _ _ ih.sorted,fun k=>?_⟩;rw[tks,insT_mem,ih.mem];constructor
  ·rintro(rfl|⟨o',Z,Q⟩)
   ·exact⟨o,by simp,rfl⟩
   ·exact⟨o',by simp[Z],Q⟩
  ·rintro⟨o',Z,Q⟩;rcases List.mem_cons.1 Z with rfl|Z
   ·exact .inl Q.symm
   ·exact .inr ⟨o',Z,Q⟩
theorem lZ {s:Bool}:∀ {md B:List Int},md.Pairwise (bt s)->B.Pairwise (bt s)->(∀k,k∈md ↔ k∈B)->md=B
 | [],B,_,_,h=>by
  cases B with
  | nil=>rfl
  | cons b r=>exact absurd ((h b).2 (by simp)) (by simp)
 | a::md,[],_,_,h=>absurd ((h a).1 (by simp)) (by simp)
 | a::md,b::B,hA,hB,h=>by
  obtain⟨p1,p2⟩:=List.pairwise_cons.1 hA;obtain⟨q1,q2⟩:=List.pairwise_cons.1 hB
  have hab:a=b:=by
   rcases List.mem_cons.1 ((h a).1 (by simp)) with e|e
   ·exact e
   ·rcases List.mem_cons.1 ((h b).2 (by simp)) with e'|e'
    ·exact e'.symm
    ·exact absurd (p1 b e') (bt_asymm (q1 a e))
  subst hab;rw[lZ p2 q2 fun k=>⟨fun E=>?_,fun E=>?_⟩]
  ·rcases List.mem_cons.1 ((h k).1 (by simp[E])) with e|e
   ·subst e;exact absurd (p1 _ E) (gu _ _)
   ·exact e
  ·rcases List.mem_cons.1 ((h k).2 (by simp[E])) with e|e
   ·subst e;exact absurd (q1 _ E) (gu _ _)
   ·exact e
theorem isT_unique {s:Bool}{seq:List Od}{md:List Int}(hA:IsT s seq md):md=tks s seq:=
 lZ hA.sorted (eG s seq).sorted fun k=>(hA.mem k).trans ((eG s seq).mem k).symm
structure Lv where
 side:Int
 ticks:Int
 qty:Int
 count:Int
def Lv.vs (n:Lv):List Value:=[H n.side,H n.ticks,H n.qty,H n.count]
theorem Lv.len (o:Lv):o.vs.length=4:=rfl
def lvAt (sd:Int)(seq:List Od)(k:Int):Lv:=⟨sd,k,sumQ (atK seq k),(atK seq k).length⟩
def dS (s:Bool)(sd:Int)(seq:List Od):List Lv:=(tks s seq).map (lvAt sd seq)
def quOf (s:Bool)(seq:List Od):List Od:=(tks s seq).flatMap (atK seq)
def Nd.lv (n:Nd):Lv:=⟨n.side,n.ticks,n.qty,n.count⟩
theorem lz {s:Bool}{S:TS}{t:Tr}{sd:Int}{seq:List Od}(hi:TI s S t)(hq:QI S t sd seq):(t.hs.map fun h=>(S.nd h).lv)=dS s sd seq:=by
 rw[dS,<- isT_unique (isT_of hi hq),List.map_map];refine List.map_congr_left fun h hh=>?_;have hQ:=hq.q h hh;show Lv.mk _ _ _ _ = Lv.mk _ _ _ _;rw[hQ.side,hQ.qty,hQ.cnt]
theorem tree_orders {s:Bool}{S:TS}{t:Tr}{sd:Int}{seq:List Od}(hi:TI s S t)(hq:QI S t sd seq):(t.hs.flatMap fun h=>(qs seq (S.nd h).ticks).map fun i=>(S.qo i).od)=quOf s seq:=by
 rw[quOf,<- isT_unique (isT_of hi hq),List.flatMap_map];rw[List.flatMap_def,List.flatMap_def];congr 1;refine List.map_congr_left fun h hh=>?_;exact qsF_map _ _ seq 1 (fun i o D=>hq.od i o D)
def zOdv:Value:=.agg (yx 0 0 0 0 0 ⟨#[]⟩).toArray
def frOf (q:List Od):Value:=match q.head? with
 | some o=>.tuple #[o.val,.bool true]
 | none=>.tuple #[zOdv,.bool false]
end Go.Proofs.YtkofhemdefffpaaGreatDoor
