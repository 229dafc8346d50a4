/-.-/
import Derived.Test.YtbghmldggahjiaaGreatDoorRows
import Derived.WalkKit
import Derived.Below
import Derived.Deep.MidRow
import Derived.OpenShut
import Derived.Deep.QuietTactic
import Derived.BigQuiet
import Derived.WalkSmall
import Derived.WalkSpells
import Derived.Handy
set_option linter.unusedVariables false
set_option maxHeartbeats 6400000
set_option maxRecDepth 100000
namespace Go.Proofs.YtbghmldggahjiaaGreatDoor
open Go.RowKit
theorem hide {p:Prop}(h:p):Hid p:=h
theorem Z {p:Prop}(h:Hid p):p:=h
theorem zO {a b:Bool}(h:a=b):Ending.returned (.bool a) = .returned (.bool b):=by rw[h]
theorem zt {k:IntKind}{a b:Int}(h:a=b):Ending.returned (.int k a) = .returned (.int k b):=by rw[h]
theorem get_nat (s:ByteArray)(k:Nat)(h:k<s.size):s[k]=s.data.toList[k]'(by simpa using h):=rfl
theorem data_len (s:ByteArray):s.data.toList.length=s.size:=by simp
abbrev H (n : Int) : Value:= .int .i64 n
abbrev U (b o : Nat) : Addr:= ⟨b, o, none⟩
abbrev xj (b o : Nat) : Value:= .pointer (some ⟨b, o, none⟩)
theorem ya {n : Nat} : n<=n:= Nat.le_refl n
theorem yb {hb : Type}{a b : hb}(h : some a=some b) : a=b:= Option.some.inj h
theorem Q {p : Prop}(h : p) : Hid p:= h
theorem yh {o : Option Value}{v : Value}(h : o=some v) : ∀u, o=some u->v=u:= fun u hu => Option.some.inj (h.symm.trans hu)
theorem yi {o : Option (Option Value)}{v : Value}(h : o=some (some v)) : ∀u, o=some (some u)->v=u:= fun u hu => Option.some.inj (Option.some.inj (h.symm.trans hu))
abbrev yj (n : Nat) : Value:= .float .f64 n
abbrev yk (b : ByteArray) : Value:= .string b
abbrev F : Value:= undef
abbrev J (a : Array Value)(t : TypeId) : Obj:= Obj.cells a t
theorem lX {P : Program}{yc : Exit->Act->World->Prop}{a : Act}{w : World}{x y : Code}(h : ∀ho : Act->World->Prop, Hid (∀a w, y.wp P yc a w->ho a w)->x.wp P (Exit.then ho yc) a w) : (Code.seq x y).wp P yc a w:= wp_seq_k h
theorem lT (w : World)(o : Obj) : Below w.heap.size w (w.alloc o):= (Below.refl _ _).alloc (Nat.le_refl _) _
theorem lW {w w1 w2 : World}(h : Below w.heap.size w w1)(A : Below w1.heap.size w1 w2) : Below w.heap.size w w2:= h.trans (A.mono h.size)
abbrev yv (a b c d e f g : Int)(p : Nat)(s : ByteArray)(h i j k l : Int) : List Value:= [.int .i64 a, .int .i64 b, .int .i64 c, .int .i64 d, .int .i64 e, .int .i64 f, .int .i64 g, .float .f64 p, .string s, .int .i64 h, .int .i64 i, .int .i64 j, .int .i64 k, .int .i64 l]
abbrev yw (a b c d e : Int)(s : ByteArray) : List Value:= [.int .i64 a, .int .i64 b, .int .i64 c, .int .i64 d, .int .i64 e, .string s]
abbrev yx (a b c d e f : Int)(p : Nat)(s : ByteArray) : List Value:= [.int .i64 a, .int .i64 b, .int .i64 c, .int .i64 d, .int .i64 e, .int .i64 f, .float .f64 p, .string s]
abbrev ym (v : Value) : Ending:= .returned v
abbrev yn (w w1 : World) : Prop:= Below w.heap.size w w1
abbrev yp (w : World)(o : Nat) : Value:= .pointer (some ⟨w.heap.size, o, none⟩)
abbrev yq (w : World)(o : Nat) : Addr:= ⟨w.heap.size, o, none⟩
theorem yB {W : World}{b : Nat}{v0 v1 v2 v3 v4 : Value}(h : W.rangeAt b 0 [v0, v1, v2, v3, v4]) : W.cell? ⟨b, 0, none⟩=some v0/\W.cell? ⟨b, 1, none⟩=some v1/\W.cell? ⟨b, 2, none⟩=some v2/\W.cell? ⟨b, 3, none⟩=some v3/\W.cell? ⟨b, 4, none⟩=some v4:= ⟨h 0 _ rfl, h 1 _ rfl, h 2 _ rfl, h 3 _ rfl, h 4 _ rfl⟩
theorem yC {W : World}{b : Nat}{v0 v1 v2 v3 v4 v5 : Value}(h : W.rangeAt b 0 [v0, v1, v2, v3, v4, v5]) : W.cell? ⟨b, 0, none⟩=some v0/\W.cell? ⟨b, 1, none⟩=some v1/\W.cell? ⟨b, 2, none⟩=some v2/\W.cell? ⟨b, 3, none⟩=some v3/\W.cell? ⟨b, 4, none⟩=some v4/\W.cell? ⟨b, 5, none⟩=some v5:= ⟨h 0 _ rfl, h 1 _ rfl, h 2 _ rfl, h 3 _ rfl, h 4 _ rfl, h 5 _ rfl⟩
theorem yD {W : World}{b : Nat}{v0 v1 v2 v3 v4 v5 v6 v7 : Value}(h : W.rangeAt b 0 [v0, v1, v2, v3, v4, v5, v6, v7]) : W.cell? ⟨b, 0, none⟩=some v0/\W.cell? ⟨b, 1, none⟩=some v1/\W.cell? ⟨b, 2, none⟩=some v2/\W.cell? ⟨b, 3, none⟩=some v3/\W.cell? ⟨b, 4, none⟩=some v4/\W.cell? ⟨b, 5, none⟩=some v5/\W.cell? ⟨b, 6, none⟩=some v6/\W.cell? ⟨b, 7, none⟩=some v7:= ⟨h 0 _ rfl, h 1 _ rfl, h 2 _ rfl, h 3 _ rfl, h 4 _ rfl, h 5 _ rfl, h 6 _ rfl, h 7 _ rfl⟩
theorem yE {W : World}{b : Nat}{v0 v1 v2 v3 v4 v5 v6 v7 v8 : Value}(h : W.rangeAt b 0 [v0, v1, v2, v3, v4, v5, v6, v7, v8]) : W.cell? ⟨b, 0, none⟩=some v0/\W.cell? ⟨b, 1, none⟩=some v1/\W.cell? ⟨b, 2, none⟩=some v2/\W.cell? ⟨b, 3, none⟩=some v3/\W.cell? ⟨b, 4, none⟩=some v4/\W.cell? ⟨b, 5, none⟩=some v5/\W.cell? ⟨b, 6, none⟩=some v6/\W.cell? ⟨b, 7, none⟩=some v7/\W.cell? ⟨b, 8, none⟩=some v8:= ⟨h 0 _ rfl, h 1 _ rfl, h 2 _ rfl, h 3 _ rfl, h 4 _ rfl, h 5 _ rfl, h 6 _ rfl, h 7 _ rfl, h 8 _ rfl⟩
theorem yF {W : World}{b : Nat}{v0 v1 v2 v3 v4 v5 v6 v7 v8 v9 v10 v11 v12 v13 : Value}(h : W.rangeAt b 0 [v0, v1, v2, v3, v4, v5, v6, v7, v8, v9, v10, v11, v12, v13]) : W.cell? ⟨b, 0, none⟩=some v0/\W.cell? ⟨b, 1, none⟩=some v1/\W.cell? ⟨b, 2, none⟩=some v2/\W.cell? ⟨b, 3, none⟩=some v3/\W.cell? ⟨b, 4, none⟩=some v4/\W.cell? ⟨b, 5, none⟩=some v5/\W.cell? ⟨b, 6, none⟩=some v6/\W.cell? ⟨b, 7, none⟩=some v7/\W.cell? ⟨b, 8, none⟩=some v8/\W.cell? ⟨b, 9, none⟩=some v9/\W.cell? ⟨b, 10, none⟩=some v10/\W.cell? ⟨b, 11, none⟩=some v11/\W.cell? ⟨b, 12, none⟩=some v12/\W.cell? ⟨b, 13, none⟩=some v13:= ⟨h 0 _ rfl, h 1 _ rfl, h 2 _ rfl, h 3 _ rfl, h 4 _ rfl, h 5 _ rfl, h 6 _ rfl, h 7 _ rfl, h 8 _ rfl, h 9 _ rfl, h 10 _ rfl, h 11 _ rfl, h 12 _ rfl, h 13 _ rfl⟩
abbrev yG:= @List.getElem?_eq_some_iff
abbrev yH:= @List.getElem?_eq_getElem
abbrev yI:= @List.getElem?_replicate
abbrev yJ:= @Nat.lt_of_lt_of_le
abbrev yK:= @World.block_lt_of_cell?
abbrev yL:= @World.cell?_setCell_other
abbrev yM:= @World.cell?_setCell_same
abbrev yN:= @Nat.le_trans
abbrev yO:= @List.mem_of_getElem?
abbrev yP:= @List.length_append
abbrev yQ:= @World.cell?_of_block
abbrev yR:= @World.grownBy.refl
abbrev yS:= @Below.heap_setCell
abbrev yT:= @List.take_succ_cons
abbrev yU:= @List.drop_succ_cons
abbrev yV:= @World.cell?_alloc_lt
abbrev yW:= @List.getElem?_set_ne
abbrev yX:= @World.rangeAt_setCells_same
abbrev yY:= @Array.getElem?_eq_some_iff
abbrev yZ:= @List.take_of_length_le
abbrev xa:= @List.drop_of_length_le
abbrev xb:= @World.there_setCells
abbrev xc:= @List.drop_eq_getElem_cons
abbrev xd:= @beq_eq_false_iff_ne
abbrev xe:= @Bool.and_eq_true
abbrev xf:= @decide_eq_true_eq
theorem ye {L : Array Edge}{x : List Bool}(h : ∀e∈L, Region.binds .any e=true->x[e.on]? = some true)(j : Nat)(hm : (L.toList.any fun e => e.on==j&&Region.binds .any e)=true) : x[j]? = some true:= by
  obtain⟨e, he, hp⟩:= List.any_eq_true.1 hm;rw[Bool.and_eq_true] at hp;have D : e.on=j:= by simpa using hp.1
  have:= h e (by simpa using he) hp.2;rw[D] at this;exact this
def Rd (w:World)(v:Value)(l:List Int):Prop:=
 ∃(a:Option Addr) (cap:Nat),v = .slice a l.length cap/\l.length<=1073741824 /\
  (l ≠ []->∃b off,a=some (U b off)/\∀i,i<l.length->w.cell? (U b (off+i))=some (.int .u8 (l.getD i 0)))
theorem zC {a b c:World}{row:Option Nat}(h:a.grownBy b row)(k:b.grownBy c row):a.grownBy c row:=
 ⟨k.os.trans h.os,k.tape.trans h.tape,k.output.trans h.output,yN h.size k.size,
  fun i hi xy=>(k.block i (yJ hi h.size) xy).trans (h.block i hi xy)⟩
theorem eF (w:World)(a:Addr)(u:Value):w.grownBy (w.setCell a u) (some a.block):=
 ⟨rfl,rfl,rfl,by simp[World.setCell],fun k _ xy=>yS _ _ _ _ (fun e=>xy (by rw[e]))⟩
theorem dZ (w:World)(n:Nat)(row:Option Nat):w.grownBy (w.drewN n) row:=⟨rfl,rfl,rfl,Nat.le_refl _,fun _ _ _=>rfl⟩
theorem gr_below {w w':World}{g B:Nat}(h:w.grownBy w' (some g))(hB:B<=g)(hs:B<=w.heap.size):Below B w w':=
 ⟨h.os,h.tape,h.output,h.size,fun k X=>h.block k (by omega) (by simp;omega)⟩
theorem eu {g a b:Nat}(h:a≠b):((U g a):Addr)≠(U g b):=by
 intro e;injection e;exact h (by assumption)
def Own (B:Nat)(w:World)(v:Value)(l:List Int):Prop:=
 ∃g cap,v = .slice (some (U g 0)) l.length cap/\B<=g/\g<w.heap.size/\l.length<=1073741824 /\
  (∀i,i<l.length->w.cell? (U g (0+i))=some (.int .u8 (l.getD i 0)))/\∀i,i<l.length->w.frozen? (U g (0+i))=false
theorem own_push {B:Nat}{w:World}{v:Value}{done:List Int}{x:Int}(h:w.ownsRow B 5 1 v (done.length+1) (done.map (Value.int .u8) ++ [.int .u8 x])) :
  w.ownsRow B 5 1 v (done ++ [x]).length ((done ++ [x]).map (Value.int .u8)):=by
 simpa using h
theorem below_push {B:Nat}{w wr w1:World}{v:Value}{n:Nat}{xs:List Value}{o:Obj}(xk:Below B w wr)(xL:wr.ownsRow B 5 1 v n xs)(hB:B<=wr.heap.size)(M:(wr.alloc o).grownBy w1 v.ownBlock):Below B w w1:=
 (xk.alloc hB o).grown M (by simp;omega) fun k X=>(xL.lt k X).1
theorem size_push {wr w1:World}{o:Obj}{row:Option Nat}{B:Nat}(hB:B<wr.heap.size)(M:(wr.alloc o).grownBy w1 row):B<w1.heap.size:=by
 have:=M.size;simp at this;omega
theorem Tryz.infoByte:(Tryz.prog.info? 5).map (fun i=>(i.zero,i.size,i.bytes))=some (some (.int .u8 0),1,1):=by kernel_rfl
def OwnT (B:Nat)(w:World)(v:Value)(l:List Int):Prop:=
 ∃g cap xr t,v = .slice (some (U g 0)) l.length cap/\B<=g/\w.heap[g]? = some (.cells xr t (0,0))/\l.length<=cap/\cap<=xr.size/\cap<=maxLen/\l.length<=1073741824 /\
  xr.toList.take l.length=l.map (Value.int .u8)
theorem cell_head {w:World}{g t:Nat}{xr:Array Value}{l:List Int}(M:w.heap[g]? = some (.cells xr t (0,0)))(ht:xr.toList.take l.length=l.map (Value.int .u8)){i:Nat}(hi:i<l.length) :
  w.cell? (U g i)=some (.int .u8 (l.getD i 0)):=by
 rw[cell_of_row w g i xr t (0,0) M];have D:(xr.toList.take l.length)[i]? = (l.map (Value.int .u8))[i]?:=by rw[ht]
 rw[List.getElem?_take,if_pos hi,List.getElem?_map,yH hi] at D;simpa[hi] using D
theorem OwnT.own {B:Nat}{w:World}{v:Value}{l:List Int}(h:OwnT B w v l):Own B w v l:=by
 obtain⟨g,cap,xr,t,rfl,A,M,_,_,_,hl,ht⟩:=h;exact⟨g,cap,rfl,A,(yY.1 M).1,hl,fun i hi=>by rw[Nat.zero_add];exact cell_head M ht hi,fun i _=>by simp[World.frozen?,M]⟩
theorem ownT_row {B:Nat}{w:World}{v:Value}{l:List Int}(xy:0<l.length)(xD:l.length<=1073741824)
  (h:w.ownsRow B 5 1 v l.length (l.map (Value.int .u8))):OwnT B w v l:=by
 rcases h.2 with⟨_,h0⟩|⟨g,cap,xr,rfl,A,M,D,E,hcur,htake⟩
 ·omega
 ·exact⟨g,cap,xr,_,rfl,A,M,D,by omega,E,xD,by simpa using htake⟩
theorem ownT_done {B:Nat}{w:World}{v:Value}{done l:List Int}{x:Int}(h:w.ownsRow B 5 1 v (done.length+1) (done.map (Value.int .u8) ++ [.int .u8 x]))(he:done ++ [x]=l)(hl:l.length<=1073741824) :
  OwnT B w v l:=by
 subst he;exact ownT_row (by simp) hl (own_push h)
def Arr (hg B:Nat)(w wr:World)(done:List Int):Prop:=
 ∃xr t,wr.heap[B]? = some (.cells xr t (0,0))/\xr.size=hg/\done.length<=hg/\xr.toList.take done.length=done.map (Value.int .u8)/\Below B w wr
theorem Arr.below {hg B:Nat}{w wr:World}{done:List Int}(h:Arr hg B w wr done):Below B w wr:=by
 obtain⟨_,_,_,_,_,_,h⟩:=h;exact h
theorem Arr.lt {hg B:Nat}{w wr:World}{done:List Int}(h:Arr hg B w wr done):B<wr.heap.size:=by
 obtain⟨_,_,h,_⟩:=h;exact(yY.1 h).1
theorem Arr.some {hg B:Nat}{w wr:World}{done:List Int}(h:Arr hg B w wr done){j:Nat}(hj:j<hg):∃v,wr.cell? (U B j) = .some v:=by
 obtain⟨xr,t,D,E,_⟩:=h;exact⟨_,(cell_of_row wr B j xr t (0,0) D).trans (Array.getElem?_eq_getElem (by omega))⟩
theorem Arr.free {hg B:Nat}{w wr:World}{done:List Int}(h:Arr hg B w wr done)(j:Nat):wr.frozen? (U B j)=false:=by
 obtain⟨xr,t,D,_⟩:=h;simp[World.frozen?,D]
theorem arr_start {hg:Nat}(w:World)(c:Array Value)(t:TypeId)(h:c.size=hg):Arr hg w.heap.size w (w.alloc (.cells c t)) []:=
 ⟨c,t,heap_alloc_new w _,h,Nat.zero_le _,rfl,lT _ _⟩
theorem arr_step {hg B:Nat}{w wr:World}{done:List Int}(x:Int)(h:Arr hg B w wr done)(hM:done.length<hg):Arr hg B w (wr.setCell (U B done.length) (.int .u8 x)) (done ++ [x]):=by
 obtain⟨xr,t,D,E,h3,h4,h5⟩:=h;refine⟨xr.setIfInBounds done.length (.int .u8 x),t,by simp[World.setCell,Array.getElem?_modify,D],by simpa using E,by simp;omega,?_,h5.setCell ya _⟩;rw[yP,List.length_singleton,List.take_succ_eq_append_getElem (by simp;omega)];simp only[Array.toList_setIfInBounds,List.map_append,List.map_cons,List.map_nil];rw[List.take_set_of_le ya,h4];simp
theorem arr_own {hg B cap:Nat}{w wr:World}{l:List Int}(h:Arr hg B w wr l)(hc:cap=hg)(hM':hg<=1073741824):OwnT B wr (.slice (some (U B 0)) l.length cap) l:=by
 obtain⟨xr,t,D,E,h3,h4,_⟩:=h;exact⟨B,cap,xr,t,rfl,Nat.le_refl _,D,by omega,by omega,by unfold maxLen;omega,by omega,h4⟩
theorem eI {B:Nat}{w:World}{v:Value}{l:List Int}(h:Own B w v l):Rd w v l:=by
 obtain⟨g,cap,rfl,_,_,hl,hc,_⟩:=h;exact⟨_,cap,rfl,hl,fun _=>⟨g,0,rfl,hc⟩⟩
theorem gd {B C:Nat}{w w':World}{v:Value}{l:List Int}(h:Own B w v l)(A:Below C w w')(hC:w.heap.size<=C):Own B w' v l:=by
 obtain⟨g,cap,rfl,D,E,hl,hc,hf⟩:=h
 exact⟨g,cap,rfl,D,yJ E A.size,hl,fun i hi=>(A.cell (p:=(U g (0+i))) (yJ E hC)).trans (hc i hi),
  fun i hi=>(A.frozen (p:=(U g (0+i))) (yJ E hC)).trans (hf i hi)⟩
theorem zp {B:Nat}{a w:World}(h:Below B a w)(n:Nat):Below B a (w.drewN n):=h.trans ⟨rfl,rfl,rfl,Nat.le_refl _,fun _ _=>rfl⟩
def Bts (l:List Int):Prop:=∀x∈l,0<=x/\x<=255
theorem eQ {l:List Int}(h:Bts l)(k:Nat):0<=l.getD k 0/\l.getD k 0<=255:=by
 by_cases X:k<l.length
 ·have e:l.getD k 0=l[k]:=by simp[X]
  rw[e];exact h _ (List.getElem_mem X)
 ·simp[Nat.le_of_not_lt X]
theorem rd_of_row {w:World}{a:Option Addr}{len cap:Nat}{zs:List Int}
  (h:(a=none/\len=0/\cap=0/\zs = []) \/ ∃x,a=some x/\len<=cap/\cap<=maxLen/\zs.length=cap/\(∀i,i<zs.length->w.cell? (x.add i)=some (.int .u8 (zs.getD i 0)))/\∀n∈zs,(Lit.int .u8 n).wf=true)
  (hl:len<=1073741824):(zs.take len).length=len/\Rd w (.slice a len cap) (zs.take len)/\Bts (zs.take len):=by
 rcases h with⟨rfl,rfl,rfl,rfl⟩|⟨x,rfl,D,_,hz,hc,hw⟩
 ·exact⟨rfl,⟨none,0,rfl,by simp,fun h=>absurd rfl h⟩,fun x hx=>by simp at hx⟩
 ·have xD:(zs.take len).length=len:=by rw[List.length_take];omega
  refine⟨xD,⟨some x,cap,by rw[xD],by omega,fun xy=>?_⟩,fun n hn=>bounds_u8 (hw n (List.mem_of_mem_take hn))⟩
  have hp:0<len:=by
   rcases Nat.eq_zero_or_pos len with h0|h0
   ·subst h0;simp at xy
   ·exact h0
  obtain⟨b,off,spot⟩:=x;have h0:=hc 0 (by omega);have hspot:spot=none:=by simpa[Addr.add] using World.cell?_spot h0
  subst hspot;refine⟨b,off,rfl,fun i hi=>?_⟩;rw[xD] at hi;have:=hc i (by omega);have e:((U b off):Addr).add i=(U b (off+i)):=by unfold Addr.add;split <;> simp_all
  rw[e] at this;rw[this];have e2:(zs.take len).getD i 0=zs.getD i 0:=by simp[hi]
  rw[e2]
theorem zN {B:Nat}{w w':World}{v:Value}{l:List Int}(h:Rd w v l)(A:Below B w w')(hB:w.heap.size<=B):Rd w' v l:=by
 obtain⟨a,cap,rfl,hl,hc⟩:=h;refine⟨a,cap,rfl,hl,fun xy=>?_⟩;obtain⟨b,off,rfl,xp⟩:=hc xy;exact⟨b,off,rfl,fun i hi=>(A.cell (p:=(U b (off+i))) (yJ (yK w _ (xp i hi)) hB)).trans (xp i hi)⟩
theorem eb {w:World}{v:Value}{l:List Int}(h:Rd w v l):∃a cap,v = .slice a l.length cap:=by
 obtain⟨a,cap,rfl,_⟩:=h;exact⟨a,cap,rfl⟩
theorem arr_made {w w':World}{n:Nat}{xs:List Value}(h:w'.ownsRow w.heap.size 5 1 (.slice (some (yq w 0)) n n) n xs)(M:w.grownBy w' none):Arr n w.heap.size w w' []:=by
 rcases h.2 with⟨h0,_⟩|⟨g,cap,xr,hv,_,hh,_,_,hcur,_⟩
 ·simp at h0
 ·simp only[Value.slice.injEq,Option.some.injEq,Addr.mk.injEq,and_true,true_and] at hv;obtain⟨rfl,rfl⟩:=hv;exact⟨xr,_,hh,by omega,Nat.zero_le _,rfl,(Below.refl _ w).grown M ya (fun k X=>by simp at X)⟩
theorem take_get (l:List Int)(k:Nat)(h:k<l.length):l.take (k+1)=l.take k ++ [l.getD k 0]:=by
 rw[List.take_succ_eq_append_getElem h];simp[h]
theorem zd {C:Nat}{w w':World}{b o:Nat}{cs:List Value}(h:w.rangeAt b o cs)(A:Below C w w')(hC:b<C):w'.rangeAt b o cs:=
 fun j v hv=>(A.cell (p:=(U b (o+j))) hC).trans (h j v hv)
theorem zl {C:Nat}{w w':World}{b o n:Nat}(h:w.there b o n)(A:Below C w w')(hC:b<C):w'.there b o n:=
 fun j hj=>⟨by rw[A.cell (p:=(U b (o+j))) hC];exact(h j hj).1,by rw[A.frozen (p:=(U b (o+j))) hC];exact(h j hj).2⟩
theorem zA {G:Option Nat}{w w':World}{b o:Nat}{cs:List Value}(h:w.rangeAt b o cs)(M:w.grownBy w' G)(A:b<w.heap.size)(xy:some b≠G):w'.rangeAt b o cs:=
 fun j v hv=>(yQ (a:=(U b (o+j))) (M.block b A xy)).trans (h j v hv)
theorem iT {G:Option Nat}{w w':World}{b o n:Nat}(h:w.there b o n)(M:w.grownBy w' G)(A:b<w.heap.size)(xy:some b≠G):w'.there b o n:=
 fun j hj=>⟨by rw[yQ (a:=(U b (o+j))) (M.block b A xy)];exact(h j hj).1,by rw[World.frozen?_of_block (a:=(U b (o+j))) (M.block b A xy)];exact(h j hj).2⟩
theorem gf {w w':World}{B:Nat}{G:Option Nat}(h:Below B w w')(hB:w.heap.size<=B):w.grownBy w' G:=
 ⟨h.os,h.tape,h.output,h.size,fun k X _=>h.block k (by omega)⟩
theorem fZ {w w':World}{G:Option Nat}{B:Nat}(h:w.grownBy w' G)(hG:∀g,G=some g->B<=g)(hs:B<=w.heap.size):Below B w w':=
 ⟨h.os,h.tape,h.output,h.size,fun k X=>h.block k (by omega) (fun e=>by have:=hG k e.symm;omega)⟩
section
variable {α:Type} (f:α->List Value) (sz:Nat)
def RdR (w:World)(v:Value)(l:List α):Prop:=
 ∃(a:Option Addr) (cap:Nat),v = .slice a l.length cap/\l.length<=1073741824 /\
  (l ≠ []->∃b off,a=some (U b off)/\b<w.heap.size/\∀i c,l[i]? = some c->w.rangeAt b (off+i*sz) (f c))
def OwnR (B:Nat)(w:World)(v:Value)(l:List α):Prop:=
 ∃(a:Option Addr) (cap:Nat),v = .slice a l.length cap/\l.length<=1073741824 /\
  (l ≠ []->∃g,a=some (U g 0)/\B<=g/\g<w.heap.size/\(∀i c,l[i]? = some c->w.rangeAt g (0+i*sz) (f c))/\w.there g 0 (l.length*sz))
variable {f sz}
theorem ik {B:Nat}{w:World}{v:Value}{l:List α}(h:OwnR f sz B w v l):RdR f sz w v l:=by
 obtain⟨a,cap,rfl,hl,h⟩:=h;refine⟨a,cap,rfl,hl,fun xy=>?_⟩;obtain⟨g,rfl,_,E,h3,_⟩:=h xy;exact⟨g,0,rfl,E,h3⟩
theorem zq {C:Nat}{w w':World}{v:Value}{l:List α}(h:RdR f sz w v l)(A:Below C w w')(hC:w.heap.size<=C):RdR f sz w' v l:=by
 obtain⟨a,cap,rfl,hl,h⟩:=h;refine⟨a,cap,rfl,hl,fun xy=>?_⟩;obtain⟨b,off,rfl,D,E⟩:=h xy;exact⟨b,off,rfl,yJ D A.size,fun i c hc=>zd (E i c hc) A (yJ D hC)⟩
theorem fX {B C:Nat}{w w':World}{v:Value}{l:List α}(h:OwnR f sz B w v l)(A:Below C w w')(hC:w.heap.size<=C):OwnR f sz B w' v l:=by
 obtain⟨a,cap,rfl,hl,h⟩:=h;refine⟨a,cap,rfl,hl,fun xy=>?_⟩;obtain⟨g,rfl,h0,D,E,h3⟩:=h xy;exact⟨g,rfl,h0,yJ D A.size,fun i c hc=>zd (E i c hc) A (yJ D hC),zl h3 A (yJ D hC)⟩
theorem ownR_grown {B:Nat}{G:Option Nat}{w w':World}{v:Value}{l:List α}(h:OwnR f sz B w v l)(M:w.grownBy w' G)(hne':l ≠ []->v.ownBlock≠G):OwnR f sz B w' v l:=by
 obtain⟨a,cap,rfl,hl,h⟩:=h;refine⟨a,cap,rfl,hl,fun xy=>?_⟩;obtain⟨g,rfl,h0,D,E,h3⟩:=h xy;exact⟨g,rfl,h0,yJ D M.size,fun i c hc=>zA (E i c hc) M D (hne' xy),iT h3 M D (hne' xy)⟩
theorem zg {B:Nat}{w:World}(b:Nat)(A:B<=b):∀(vs:List Value) (o:Nat) (wr:World),Below B w wr->Below B w (wr.setCells b o vs)
 | [],_,_,h=>h
 | v::r,o,wr,h=>by rw[World.setCells];exact zg b A r (o+1) _ (h.setCell (show B<=((U b o):Addr).block from A) v)
theorem fH (b:Nat):∀(vs:List Value) (o:Nat) (wr:World),(wr.setCells b o vs).heap.size=wr.heap.size
 | [],_,_=>rfl
 | v::r,o,wr=>by rw[World.setCells,fH b r (o+1)];simp[World.setCell]
theorem gD {w:World}{g n t:Nat}{xr:Array Value}(M:w.heap[g]? = some (.cells xr t (0,0)))(hn:n<=xr.size):w.there g 0 n:=fun j hj =>
 ⟨by rw[cell_of_row w g (0+j) xr t (0,0) M,Array.getElem?_eq_getElem (by omega)];rfl,by simp[World.frozen?,M]⟩
theorem flat_get (hf:∀c,(f c).length=sz):∀(l:List α) (i j:Nat) (c:α),l[i]? = some c->j<sz->(l.flatMap f)[i*sz+j]? = (f c)[j]?
 | [],_,_,_,h,_=>by simp at h
 | a::l,0,j,c,h,hj=>by
  simp at h;subst h;rw[List.flatMap_cons,List.getElem?_append_left (by rw[hf];omega)];simp
 | a::l,i+1,j,c,h,hj=>by
  simp at h;rw[List.flatMap_cons,List.getElem?_append_right (by rw[hf,Nat.add_mul];omega),hf,<- flat_get hf l i j c h hj];congr 1;rw[Nat.add_mul];omega
theorem ef (hf:∀c,(f c).length=sz):∀(l:List α),(l.flatMap f).length=l.length*sz
 | []=>by simp
 | a::l=>by rw[List.flatMap_cons,yP,hf,ef hf l,List.length_cons,Nat.add_mul];omega
theorem gh {B e:Nat}{w:World}{v:Value}{l:List α}(hf:∀c,(f c).length=sz)(hl:l.length<=1073741824)(h:w.ownsRow B e sz v l.length (l.flatMap f)):OwnR f sz B w v l:=by
 rcases h.2 with⟨rfl,h0⟩|⟨g,cap,xr,rfl,A,M,xC,_,hcur,htake⟩
 ·exact⟨none,0,by rw[h0],hl,fun xy=>absurd (List.length_eq_zero_iff.1 h0) xy⟩
 ·have uB:=Nat.mul_le_mul_right sz xC;refine⟨_,cap,rfl,hl,fun _=>⟨g,rfl,A,(yY.1 M).1,fun i c hc j u hu=>?_,gD M (by omega)⟩⟩;have hj:j<sz:=by rw[<- hf c];exact(yG.1 hu).1
  have E:=flat_get hf l i j c hc hj
  have xH:i*sz+j<l.length*sz:=by
   have:=Nat.mul_le_mul_right sz (show i+1<=l.length from(yG.1 hc).1);rw[Nat.add_mul] at this;omega
  rw[<- htake,List.getElem?_take,if_pos xH] at E;rw[cell_of_row w g _ xr e (0,0) M,Nat.zero_add];simpa using E.trans hu
end
structure Bx (W:World) (b:Nat) (vs:List Value):Prop where
 r:W.rangeAt b 0 vs
 t:W.there b 0 vs.length
theorem zj (w:World)(vs:List Value)(t:TypeId):Bx (w.alloc (Obj.cells vs.toArray t)) w.heap.size vs:=
 ⟨fun j u h=>by
  rw[cell_of_row _ w.heap.size (0+j) vs.toArray t (0,0) (heap_alloc_new w _)];simpa using h,gD (heap_alloc_new w _) (by simp)⟩
theorem zf {C b:Nat}{W V:World}{vs:List Value}(h:Bx W b vs)(A:Below C W V)(hC:b<C):Bx V b vs:=⟨zd h.r A hC,zl h.t A hC⟩
theorem Y {W:World}{b:Nat}{vs:List Value}(h:Bx W b vs)(j:Nat){u:Value}(hj:vs[j]? = some u):W.cell? (U b j)=some u:=by
 have:=h.r j u hj;rwa[Nat.zero_add] at this
theorem zc {W:World}{b:Nat}{vs:List Value}(h:Bx W b vs)(j:Nat)(hj:j<vs.length):W.frozen? (U b j)=false:=by
 have:=(h.t j hj).2;rwa[Nat.zero_add] at this
theorem eh {W:World}{b j:Nat}{vs:List Value}{u:Value}(h:Bx W b vs)(hj:j<vs.length):Bx (W.setCell (U b j) u) b (vs.set j u):=by
 refine⟨fun i v hi=>?_,by rw[List.length_set];exact xb (vs:=[u]) h.t b j⟩;rw[Nat.zero_add]
 by_cases pY:j=i
 ·subst pY;rw[List.getElem?_set_self hj] at hi;cases hi;have:=h.r j _ (yH hj);rw[Nat.zero_add] at this;exact yM _ _ _ this
 ·rw[yW pY] at hi;have:=h.r i v hi;rw[Nat.zero_add] at this;rw[yL _ _ _ _ (eu pY)];exact this
theorem zk {W:World}{b:Nat}{vs us:List Value}(h:Bx W b vs)(hl:us.length=vs.length):Bx (W.setCells b 0 us) b us:=
 ⟨yX W b 0 us (fun j hj=>h.t j (by omega)),by rw[hl];exact xb h.t b 0 us⟩
theorem ep (b k:Nat)(X:k≠b):∀(vs:List Value) (o:Nat) (W:World),(W.setCells b o vs).heap[k]? = W.heap[k]?
 | [],_,_=>rfl
 | u::us,o,W=>by rw[World.setCells,ep b k X us (o+1)];exact yS _ _ _ _ X
theorem zQ {W V:World}{b:Nat}{vs:List Value}(h:Bx W b vs)(A:V.heap[b]? = W.heap[b]?):Bx V b vs:=
 ⟨fun j u hj=>by rw[yQ (a:=(U b (0+j))) A];exact h.r j u hj,
  fun j hj=>by rw[yQ (a:=(U b (0+j))) A,World.frozen?_of_block (a:=(U b (0+j))) A];exact h.t j hj⟩
theorem ej {W:World}{b c j:Nat}{vs:List Value}{u:Value}(h:Bx W b vs)(hc:b≠c):Bx (W.setCell (U c j) u) b vs:=zQ h (yS _ _ _ _ hc)
theorem bx_others {W:World}{b c:Nat}{vs us:List Value}(h:Bx W b vs)(hc:b≠c):Bx (W.setCells c 0 us) b vs:=zQ h (ep c b hc us 0 W)
theorem fN {W:World}{b:Nat}{vs:List Value}(h:Bx W b vs)(n:Nat):Bx (W.drewN n) b vs:=⟨h.r,h.t⟩
theorem zm {W:World}{b:Nat}{vs:List Value}(h:Bx W b vs):Bx W.drew b vs:=⟨h.r,h.t⟩
theorem yy {W:World}{b:Nat}{v0 v1 v2 v3 v4 v5 v6 v7 v8 v9 v10 v11 v12 v13:Value}(h:Bx W b [v0,v1,v2,v3,v4,v5,v6,v7,v8,v9,v10,v11,v12,v13]):W.cell? ⟨b,0,none⟩=some v0/\W.cell? ⟨b,1,none⟩=some v1/\W.cell? ⟨b,2,none⟩=some v2/\W.cell? ⟨b,3,none⟩=some v3/\W.cell? ⟨b,4,none⟩=some v4/\W.cell? ⟨b,5,none⟩=some v5/\W.cell? ⟨b,6,none⟩=some v6/\W.cell? ⟨b,7,none⟩=some v7/\W.cell? ⟨b,8,none⟩=some v8/\W.cell? ⟨b,9,none⟩=some v9/\W.cell? ⟨b,10,none⟩=some v10/\W.cell? ⟨b,11,none⟩=some v11/\W.cell? ⟨b,12,none⟩=some v12/\W.cell? ⟨b,13,none⟩=some v13:=⟨Y h 0 rfl,Y h 1 rfl,Y h 2 rfl,Y h 3 rfl,Y h 4 rfl,Y h 5 rfl,Y h 6 rfl,Y h 7 rfl,Y h 8 rfl,Y h 9 rfl,Y h 10 rfl,Y h 11 rfl,Y h 12 rfl,Y h 13 rfl⟩
theorem yz {W:World}{b:Nat}{v0 v1 v2 v3 v4 v5 v6 v7:Value}(h:Bx W b [v0,v1,v2,v3,v4,v5,v6,v7]):W.cell? ⟨b,0,none⟩=some v0/\W.cell? ⟨b,1,none⟩=some v1/\W.cell? ⟨b,2,none⟩=some v2/\W.cell? ⟨b,3,none⟩=some v3/\W.cell? ⟨b,4,none⟩=some v4/\W.cell? ⟨b,5,none⟩=some v5/\W.cell? ⟨b,6,none⟩=some v6/\W.cell? ⟨b,7,none⟩=some v7:=⟨Y h 0 rfl,Y h 1 rfl,Y h 2 rfl,Y h 3 rfl,Y h 4 rfl,Y h 5 rfl,Y h 6 rfl,Y h 7 rfl⟩
theorem yA {W:World}{b:Nat}{v0 v1 v2 v3 v4 v5:Value}(h:Bx W b [v0,v1,v2,v3,v4,v5]):W.cell? ⟨b,0,none⟩=some v0/\W.cell? ⟨b,1,none⟩=some v1/\W.cell? ⟨b,2,none⟩=some v2/\W.cell? ⟨b,3,none⟩=some v3/\W.cell? ⟨b,4,none⟩=some v4/\W.cell? ⟨b,5,none⟩=some v5:=⟨Y h 0 rfl,Y h 1 rfl,Y h 2 rfl,Y h 3 rfl,Y h 4 rfl,Y h 5 rfl⟩
theorem lY (w:World)(vs:List Value)(t:TypeId):Below w.heap.size w (w.alloc (Obj.cells vs.toArray t))/\Hid (Bx (w.alloc (Obj.cells vs.toArray t)) w.heap.size vs):=⟨(Below.refl _ _).alloc (Nat.le_refl _) _,zj w vs t⟩
theorem lZ (w:World)(vs:List Value)(t:TypeId):Hid (Below w.heap.size w (w.alloc (Obj.cells vs.toArray t)))/\Hid (Bx (w.alloc (Obj.cells vs.toArray t)) w.heap.size vs):=⟨(Below.refl _ _).alloc (Nat.le_refl _) _,zj w vs t⟩
theorem qq {W b vs i m us} (h:Bx W b vs) (e:(vs.drop i).take m=us) (j:Nat) (hj:j<m) {u} (hu:us[j]?=some u):W.cell? ⟨b,i+j,none⟩=some u:=Y h _ (by subst e;rwa [List.getElem?_take_of_lt hj,List.getElem?_drop] at hu)
theorem rr {W b vs i j} (h:Bx W b vs) (e:vs[i]?.isSome=true) (hj:j<=i):W.frozen? ⟨b,j,none⟩=false:=zc h _ (by simp at e;omega)
theorem q0_3 {W b vs v0 v1 v2} (h:Bx W b vs) (e:(vs.drop 0).take 3=[v0,v1,v2]):W.cell? ⟨b,0,none⟩=some v0/\W.cell? ⟨b,1,none⟩=some v1/\W.cell? ⟨b,2,none⟩=some v2:=⟨qq h e 0 (by decide) rfl,qq h e 1 (by decide) rfl,qq h e 2 (by decide) rfl⟩
theorem q0_5 {W b vs v0 v1 v2 v3 v4} (h:Bx W b vs) (e:(vs.drop 0).take 5=[v0,v1,v2,v3,v4]):W.cell? ⟨b,0,none⟩=some v0/\W.cell? ⟨b,1,none⟩=some v1/\W.cell? ⟨b,2,none⟩=some v2/\W.cell? ⟨b,3,none⟩=some v3/\W.cell? ⟨b,4,none⟩=some v4:=⟨qq h e 0 (by decide) rfl,qq h e 1 (by decide) rfl,qq h e 2 (by decide) rfl,qq h e 3 (by decide) rfl,qq h e 4 (by decide) rfl⟩
theorem q0_13 {W b vs v0 v1 v2 v3 v4 v5 v6 v7 v8 v9 v10 v11 v12} (h:Bx W b vs) (e:(vs.drop 0).take 13=[v0,v1,v2,v3,v4,v5,v6,v7,v8,v9,v10,v11,v12]):W.cell? ⟨b,0,none⟩=some v0/\W.cell? ⟨b,1,none⟩=some v1/\W.cell? ⟨b,2,none⟩=some v2/\W.cell? ⟨b,3,none⟩=some v3/\W.cell? ⟨b,4,none⟩=some v4/\W.cell? ⟨b,5,none⟩=some v5/\W.cell? ⟨b,6,none⟩=some v6/\W.cell? ⟨b,7,none⟩=some v7/\W.cell? ⟨b,8,none⟩=some v8/\W.cell? ⟨b,9,none⟩=some v9/\W.cell? ⟨b,10,none⟩=some v10/\W.cell? ⟨b,11,none⟩=some v11/\W.cell? ⟨b,12,none⟩=some v12:=⟨qq h e 0 (by decide) rfl,qq h e 1 (by decide) rfl,qq h e 2 (by decide) rfl,qq h e 3 (by decide) rfl,qq h e 4 (by decide) rfl,qq h e 5 (by decide) rfl,qq h e 6 (by decide) rfl,qq h e 7 (by decide) rfl,qq h e 8 (by decide) rfl,qq h e 9 (by decide) rfl,qq h e 10 (by decide) rfl,qq h e 11 (by decide) rfl,qq h e 12 (by decide) rfl⟩
theorem r0_2 {W b vs} (h:Bx W b vs) (e:vs[1]?.isSome=true):W.frozen? ⟨b,0,none⟩=false/\W.frozen? ⟨b,1,none⟩=false:=⟨rr h e (by decide),rr h e (by decide)⟩
theorem r0_3 {W b vs} (h:Bx W b vs) (e:vs[2]?.isSome=true):W.frozen? ⟨b,0,none⟩=false/\W.frozen? ⟨b,1,none⟩=false/\W.frozen? ⟨b,2,none⟩=false:=⟨rr h e (by decide),rr h e (by decide),rr h e (by decide)⟩
theorem r0_5 {W b vs} (h:Bx W b vs) (e:vs[4]?.isSome=true):W.frozen? ⟨b,0,none⟩=false/\W.frozen? ⟨b,1,none⟩=false/\W.frozen? ⟨b,2,none⟩=false/\W.frozen? ⟨b,3,none⟩=false/\W.frozen? ⟨b,4,none⟩=false:=⟨rr h e (by decide),rr h e (by decide),rr h e (by decide),rr h e (by decide),rr h e (by decide)⟩
theorem r0_13 {W b vs} (h:Bx W b vs) (e:vs[12]?.isSome=true):W.frozen? ⟨b,0,none⟩=false/\W.frozen? ⟨b,1,none⟩=false/\W.frozen? ⟨b,2,none⟩=false/\W.frozen? ⟨b,3,none⟩=false/\W.frozen? ⟨b,4,none⟩=false/\W.frozen? ⟨b,5,none⟩=false/\W.frozen? ⟨b,6,none⟩=false/\W.frozen? ⟨b,7,none⟩=false/\W.frozen? ⟨b,8,none⟩=false/\W.frozen? ⟨b,9,none⟩=false/\W.frozen? ⟨b,10,none⟩=false/\W.frozen? ⟨b,11,none⟩=false/\W.frozen? ⟨b,12,none⟩=false:=⟨rr h e (by decide),rr h e (by decide),rr h e (by decide),rr h e (by decide),rr h e (by decide),rr h e (by decide),rr h e (by decide),rr h e (by decide),rr h e (by decide),rr h e (by decide),rr h e (by decide),rr h e (by decide),rr h e (by decide)⟩
end Go.Proofs.YtbghmldggahjiaaGreatDoor
