/-
  Rows of records in memory (slices of structs), those that came in and those that the call made: what they read as, and what stays of them; no function walked.
-/
import Derived.Test.YtbakanofkghmiaaGreatPj01
import Derived.Handy
import GoSem.Core.Float
set_option linter.unusedVariables false
set_option maxHeartbeats 6400000
set_option maxRecDepth 100000
namespace Go.Proofs.YtbakanofkghmiaaGreat
open Go.RowKit
theorem zb {C:Nat} {w w':World} {b o:Nat} {cs:List Value} (h:w.rangeAt b o cs) (hb:Below C w w') (hC:b < C):w'.rangeAt b o cs :=
 fun j v hv=>(hb.cell (p:=(J b (o + j))) hC).trans (h j v hv)
theorem zf {C:Nat} {w w':World} {b o n:Nat} (h:w.there b o n) (hb:Below C w w') (hC:b < C):w'.there b o n :=
 fun j L=>⟨by rw [hb.cell (p:=(J b (o + j))) hC]; exact (h j L).1,by rw [hb.frozen (p:=(J b (o + j))) hC]; exact (h j L).2⟩
theorem zm {G:Option Nat} {w w':World} {b o:Nat} {cs:List Value} (h:w.rangeAt b o cs) (hg:w.grownBy w' G) (hb:b < w.heap.size) (xA:some b ≠ G):w'.rangeAt b o cs :=
 fun j v hv=>(yN (a:=(J b (o + j))) (hg.block b hb xA)).trans (h j v hv)
theorem bC {G:Option Nat} {w w':World} {b o n:Nat} (h:w.there b o n) (hg:w.grownBy w' G) (hb:b < w.heap.size) (xA:some b ≠ G):w'.there b o n :=
 fun j L=>⟨by rw [yN (a:=(J b (o + j))) (hg.block b hb xA)]; exact (h j L).1,by rw [World.frozen?_of_block (a:=(J b (o + j))) (hg.block b hb xA)]; exact (h j L).2⟩
theorem zU {w w':World} {B:Nat} {G:Option Nat} (h:Below B w w') (hB:w.heap.size ≤ B):w.grownBy w' G :=
 ⟨h.os,h.tape,h.output,h.size,fun k hk _=>h.block k (by omega)⟩
theorem gr_below' {w w':World} {G:Option Nat} {B:Nat} (h:w.grownBy w' G) (hG:∀ g,G = some g→B ≤ g) (hs:B ≤ w.heap.size):Below B w w' :=
 ⟨h.os,h.tape,h.output,h.size,fun k hk=>h.block k (by omega) (fun e=>by have:=hG k e.symm; omega)⟩
section
variable {α:Type} (f:α→List Value) (sz:Nat)

def RdR (w:World) (v:Value) (l:List α):Prop :=
 ∃ (a:Option Addr) (F:Nat),v = .slice a l.length F∧l.length ≤ 1073741824 ∧
  (l ≠ []→∃ b off,a = some (J b off)∧b < w.heap.size∧∀ i c,l[i]? = some c→w.rangeAt b (off + i * sz) (f c))
def OwnR (B:Nat) (w:World) (v:Value) (l:List α):Prop :=
 ∃ (a:Option Addr) (F:Nat),v = .slice a l.length F∧l.length ≤ 1073741824 ∧
  (l ≠ []→∃ g,a = some (J g 0)∧B ≤ g∧g < w.heap.size∧(∀ i c,l[i]? = some c→w.rangeAt g (0 + i * sz) (f c))∧w.there g 0 (l.length * sz))
variable {f sz}

theorem bO {B:Nat} {w:World} {v:Value} {l:List α} (h:OwnR f sz B w v l):RdR f sz w v l:=by
 obtain ⟨a,F,rfl,hl,h⟩:=h
 refine ⟨a,F,rfl,hl,fun xA=>?_⟩
 obtain ⟨g,rfl,_,K,h3,_⟩:=h xA
 exact ⟨g,0,rfl,K,h3⟩
theorem zh {C:Nat} {w w':World} {v:Value} {l:List α} (h:RdR f sz w v l) (hb:Below C w w') (hC:w.heap.size ≤ C):RdR f sz w' v l:=by
 obtain ⟨a,F,rfl,hl,h⟩:=h
 refine ⟨a,F,rfl,hl,fun xA=>?_⟩
 obtain ⟨b,off,rfl,z,K⟩:=h xA
 exact ⟨b,off,rfl,yG z hb.size,fun i c hc=>zb (K i c hc) hb (yG z hC)⟩
theorem rdR_grown {G:Option Nat} {w w':World} {v:Value} {l:List α} (h:RdR f sz w v l) (hg:w.grownBy w' G) (hG:∀ g,G = some g→w.heap.size ≤ g):RdR f sz w' v l:=by
 obtain ⟨a,F,rfl,hl,h⟩:=h
 refine ⟨a,F,rfl,hl,fun xA=>?_⟩
 obtain ⟨b,off,rfl,z,K⟩:=h xA
 exact ⟨b,off,rfl,yG z hg.size,fun i c hc=>zm (K i c hc) hg z (fun e=>by have:=hG b e.symm; omega)⟩
theorem zu {B:Nat} {w:World} (b:Nat) (hb:B ≤ b):∀ (vs:List Value) (o:Nat) (wr:World),Below B w wr→Below B w (wr.setCells b o vs)
 | [],_,_,h=>h
 | v :: r,o,wr,h=>by rw [World.setCells]; exact zu b hb r (o + 1) _ (h.setCell (show B ≤ ((J b o):Addr).block from hb) v)
theorem cy (b:Nat):∀ (vs:List Value) (o:Nat) (wr:World),(wr.setCells b o vs).heap.size = wr.heap.size
 | [],_,_=>rfl
 | v :: r,o,wr=>by rw [World.setCells,cy b r (o + 1)]; simp [World.setCell]
theorem cz {w:World} {g n t:Nat} {xp:Array Value} (hg:w.heap[g]? = some (.cells xp t (0,0))) (hn:n ≤ xp.size):w.there g 0 n:=fun j L =>
 ⟨by rw [cell_of_row w g (0 + j) xp t (0,0) hg,Array.getElem?_eq_getElem (by omega)]; rfl,by simp [World.frozen?,hg]⟩
theorem flat_get (hf:∀ c,(f c).length = sz):∀ (l:List α) (i j:Nat) (c:α),l[i]? = some c→j < sz→(l.flatMap f)[i * sz + j]? = (f c)[j]?
 | [],_,_,_,h,_=>by simp at h
 | a :: l,0,j,c,h,L=>by
  simp at h; subst h
  rw [List.flatMap_cons,List.getElem?_append_left (by rw [hf]; omega)]; simp
 | a :: l,i + 1,j,c,h,L=>by
  simp at h
  rw [List.flatMap_cons,List.getElem?_append_right (by rw [hf,Nat.add_mul]; omega),hf,← flat_get hf l i j c h L]
  congr 1
  rw [Nat.add_mul]; omega
theorem zM (hf:∀ c,(f c).length = sz):∀ (l:List α),(l.flatMap f).length = l.length * sz
 | []=>by simp
 | a :: l=>by rw [List.flatMap_cons,yM,hf,zM hf l,List.length_cons,Nat.add_mul]; omega
theorem bc {B e:Nat} {w:World} {v:Value} {l:List α} (hf:∀ c,(f c).length = sz) (hl:l.length ≤ 1073741824) (h:w.ownsRow B e sz v l.length (l.flatMap f)):OwnR f sz B w v l:=by
 rcases h.2 with ⟨rfl,h0⟩ | ⟨g,F,xp,rfl,hb,hg,vR,_,hcur,htake⟩
 ·exact ⟨none,0,by rw [h0],hl,fun xA=>absurd (List.length_eq_zero_iff.1 h0) xA⟩
 ·have qI:=Nat.mul_le_mul_right sz vR
  refine ⟨_,F,rfl,hl,fun _=>⟨g,rfl,hb,(yV.1 hg).1,fun i c hc j u hu=>?_,cz hg (by omega)⟩⟩
  have L:j < sz:=by rw [← hf c]; exact (yD.1 hu).1
  have K:=flat_get hf l i j c hc L
  have xL:i * sz + j < l.length * sz:=by
   have:=Nat.mul_le_mul_right sz (show i + 1 ≤ l.length from (yD.1 hc).1)
   rw [Nat.add_mul] at this; omega
  rw [← htake,List.getElem?_take,if_pos xL] at K
  rw [cell_of_row w g _ xp e (0,0) hg,Nat.zero_add]
  simpa using K.trans hu
end
structure Cm where
 k:Int
 s:Int
 t:Int
 l:Int
 q:Int
 i:Int
 p:Nat
 g:ByteArray
def Cm.vs (c:Cm):List Value:=(yu c.k c.s c.t c.l c.q c.i c.p c.g)
theorem Cm.len (c:Cm):c.vs.length = 8:=rfl
theorem da {w:World} {b o:Nat} {c:Cm} (h:w.rangeAt b o c.vs) :
  w.cell? (J b o) = some (H c.k)∧w.cell? (J b (o + 1)) = some (H c.s)∧w.cell? (J b (o + 2)) = some (H c.t)∧w.cell? (J b (o + 3)) = some (H c.l) ∧
  w.cell? (J b (o + 4)) = some (H c.q)∧w.cell? (J b (o + 5)) = some (H c.i)∧w.cell? (J b (o + 6)) = some (yh c.p)∧w.cell? (J b (o + 7)) = some (yi c.g) :=
 ⟨h 0 _ rfl,h 1 _ rfl,h 2 _ rfl,h 3 _ rfl,h 4 _ rfl,h 5 _ rfl,h 6 _ rfl,h 7 _ rfl⟩
theorem zF {w:World} {b o n:Nat} (h:w.there b o n) (j:Nat) (L:j < n):∃ v,w.cell? (J b (o + j)) = some v∧w.frozen? (J b (o + j)) = false:=by
 obtain ⟨v,hv⟩:=Option.isSome_iff_exists.1 (h j L).1
 exact ⟨v,hv,(h j L).2⟩
theorem sfl (a:Addr) (x:Nat) (m:Mode) (w:World):(store a (yh x) m).run Tryz.prog w = stored Tryz.prog w a (yh x) m:=run_store _ w a _ m rfl
structure Bx (W:World) (b:Nat) (vs:List Value):Prop where
 r:W.rangeAt b 0 vs
 t:W.there b 0 vs.length
theorem aT (w:World) (vs:List Value) (t:TypeId):Bx (w.alloc (Obj.cells vs.toArray t)) w.heap.size vs :=
 ⟨fun j u h=>by
  rw [cell_of_row _ w.heap.size (0 + j) vs.toArray t (0,0) (heap_alloc_new w _)]
  simpa using h,cz (heap_alloc_new w _) (by simp)⟩
theorem zG {C b:Nat} {W V:World} {vs:List Value} (h:Bx W b vs) (hb:Below C W V) (hC:b < C):Bx V b vs:=⟨zb h.r hb hC,zf h.t hb hC⟩
theorem zq {W:World} {b:Nat} {vs:List Value} (h:Bx W b vs) (j:Nat) {u:Value} (L:vs[j]? = some u):W.cell? (J b j) = some u:=by
 have:=h.r j u L; rwa [Nat.zero_add] at this
theorem bd {W:World} {b:Nat} {vs:List Value} (h:Bx W b vs) (j:Nat) (L:j < vs.length):W.frozen? (J b j) = false:=by
 have:=(h.t j L).2; rwa [Nat.zero_add] at this
theorem yv {W:World} {b:Nat} {v0 v1 v2 v3 v4 v5 v6 v7 v8 v9 v10 v11 v12 v13:Value} (h:Bx W b [v0,v1,v2,v3,v4,v5,v6,v7,v8,v9,v10,v11,v12,v13]):W.cell? ⟨b,0,none⟩ = some v0∧W.cell? ⟨b,1,none⟩ = some v1∧W.cell? ⟨b,2,none⟩ = some v2∧W.cell? ⟨b,3,none⟩ = some v3∧W.cell? ⟨b,4,none⟩ = some v4∧W.cell? ⟨b,5,none⟩ = some v5∧W.cell? ⟨b,6,none⟩ = some v6∧W.cell? ⟨b,7,none⟩ = some v7∧W.cell? ⟨b,8,none⟩ = some v8∧W.cell? ⟨b,9,none⟩ = some v9∧W.cell? ⟨b,10,none⟩ = some v10∧W.cell? ⟨b,11,none⟩ = some v11∧W.cell? ⟨b,12,none⟩ = some v12∧W.cell? ⟨b,13,none⟩ = some v13:=⟨zq h 0 rfl,zq h 1 rfl,zq h 2 rfl,zq h 3 rfl,zq h 4 rfl,zq h 5 rfl,zq h 6 rfl,zq h 7 rfl,zq h 8 rfl,zq h 9 rfl,zq h 10 rfl,zq h 11 rfl,zq h 12 rfl,zq h 13 rfl⟩
theorem yw {W:World} {b:Nat} {v0 v1 v2 v3 v4 v5 v6 v7:Value} (h:Bx W b [v0,v1,v2,v3,v4,v5,v6,v7]):W.cell? ⟨b,0,none⟩ = some v0∧W.cell? ⟨b,1,none⟩ = some v1∧W.cell? ⟨b,2,none⟩ = some v2∧W.cell? ⟨b,3,none⟩ = some v3∧W.cell? ⟨b,4,none⟩ = some v4∧W.cell? ⟨b,5,none⟩ = some v5∧W.cell? ⟨b,6,none⟩ = some v6∧W.cell? ⟨b,7,none⟩ = some v7:=⟨zq h 0 rfl,zq h 1 rfl,zq h 2 rfl,zq h 3 rfl,zq h 4 rfl,zq h 5 rfl,zq h 6 rfl,zq h 7 rfl⟩
theorem yx {W:World} {b:Nat} {v0 v1 v2 v3 v4 v5:Value} (h:Bx W b [v0,v1,v2,v3,v4,v5]):W.cell? ⟨b,0,none⟩ = some v0∧W.cell? ⟨b,1,none⟩ = some v1∧W.cell? ⟨b,2,none⟩ = some v2∧W.cell? ⟨b,3,none⟩ = some v3∧W.cell? ⟨b,4,none⟩ = some v4∧W.cell? ⟨b,5,none⟩ = some v5:=⟨zq h 0 rfl,zq h 1 rfl,zq h 2 rfl,zq h 3 rfl,zq h 4 rfl,zq h 5 rfl⟩
theorem eI (w:World) (vs:List Value) (t:TypeId):Below w.heap.size w (w.alloc (Obj.cells vs.toArray t))∧Hid (Bx (w.alloc (Obj.cells vs.toArray t)) w.heap.size vs):=⟨(Below.refl _ _).alloc (Nat.le_refl _) _,aT w vs t⟩
theorem eJ (w:World) (vs:List Value) (t:TypeId):Hid (Below w.heap.size w (w.alloc (Obj.cells vs.toArray t)))∧Hid (Bx (w.alloc (Obj.cells vs.toArray t)) w.heap.size vs):=⟨(Below.refl _ _).alloc (Nat.le_refl _) _,aT w vs t⟩
theorem pick_any (B g n:Nat) (v:Value) (l:List Int) (m:Int) (ts:List ByteArray) (w:World) (h:Src B w v l m) (hm:m ≤ 1000000000) (hg:g ≠ B) (hn:ts.length = n) (z:1 ≤ n) (K:n ≤ 256) (hr:∀ k s,ts[k]? = some s→w.cell? (J g k) = some (yi s)) :
  Calls Tryz.prog 104 #[I B 0,.slice (some (J g 0)) n n] w fun e w'=>∃ s,e = yk (yi s)∧s ∈ ts∧ax B w v l (m + 3) w':=by
 have HS:=Q h
 have HR:=Q hr
 have hb:((n:Int) == 0) = false:=by simp; omega
 clear h hr
 go_enter Tryz.func104,Tryz.ntmps104
 go_wp2_with fail
 refine (aM B v l m n _ (M HS) hm (by omega) (by omega)).mono ?_
 rintro e w1 ⟨y,rfl,js,kM,hE⟩
 obtain ⟨k,rfl⟩:=Int.eq_ofNat_of_zero_le js
 have HE:=Q hE
 have hk:k < n:=by omega
 obtain ⟨s,hs⟩:∃ s,ts[k]? = some s:=⟨_,yE (by omega)⟩
 have hc:=hE.2.cell (M HR k s hs) (fun e=>hg (Option.some.inj e))
 have HSS:=Q (yL hs)
 clear hE hs
 go_wp2_with fail
 go_ret
 exact ⟨s,rfl,M HSS,M HE⟩
def tags8:List ByteArray:=[⟨#[]⟩,⟨#[97]⟩,⟨#[100,101,115,107,32,55]⟩,⟨#[49,50,51,52,53,54,55,56,57,48,49,50]⟩,⟨#[49,50,51,52,53,54,55,56,57,48,49,50,51]⟩,⟨#[49,50,51,52,53,54,55,56,57,48,49,50,51,52,53,54,55,56,57,48]⟩,⟨#[195,169]⟩,⟨#[120,10]⟩]
theorem tags8_len:∀ s ∈ tags8,s.size ≤ 20:=by decide +kernel
theorem tag_drawn (B:Nat) (v:Value) (l:List Int) (m:Int) (w:World) (h:Src B w v l m) (hm:m ≤ 1000000000) :
  Calls Tryz.prog 143 #[I B 0] w fun e w'=>∃ s,e = yk (yi s)∧s.size ≤ 20∧ax B w v l (m + 3) w':=by
 have HS:=Q h
 have hB:=src_lt h
 clear h
 have HX:=Q (aT w (tags8.map .string) 9)
 go_enter Tryz.func143,Tryz.ntmps143
 go_wp2_with fail
 refine (pick_any B w.heap.size 8 v l m tags8 _ (cA (bN (M HS)) _).1 hm (by omega) rfl (by omega) (by omega) (fun k s hs=>zq (M HX) k (by rw [List.getElem?_map,hs]; rfl))).mono ?_
 rintro e w1 ⟨s,rfl,hs,hE⟩
 have HL:=Q (tags8_len s hs)
 have HE:=Q (show ax B w v l (m + 3) w1 from ⟨hE.1,zQ (bG w _ _) hE.2⟩)
 clear hE hs HX
 go_wp2_with fail
 go_ret
 exact ⟨s,rfl,M HL,M HE⟩
structure DrC (B b:Nat) (w:World) (v:Value) (l:List Int) (m:Int) (W:World):Prop where
 e:ax B w v l m W
 t:W.there b 0 8
theorem bp {B:Nat} {w W W':World} {v:Value} {l:List Int} {m m':Int} (h:DrC B w.heap.size w v l m W) (hB:B < w.heap.size) (h':ax B W v l m' W') (hW:w.heap.size < W.heap.size):DrC B w.heap.size w v l m' W' :=
 ⟨⟨h'.1,zQ h.e.2 h'.2⟩,bC h.t h'.2 hW (fun e=>by have:=Option.some.inj e; omega)⟩
theorem src_far {B:Nat} {w:World} {v:Value} {l:List Int} {m:Int} (h:Src B w v l m):l ≠ []→∃ k,v.ownBlock = some k∧k < w.heap.size:=fun xA=>by
 obtain ⟨a,F,rfl,hl,hc⟩:=h.rd
 obtain ⟨b,off,rfl,xn⟩:=hc xA
 exact ⟨b,rfl,yH w _ (xn 0 (List.length_pos_iff.2 xA))⟩
theorem src_keep {B:Nat} {w w':World} {v:Value} {l:List Int} {m:Int} {G:Option Nat} (h:Src B w v l m) (hg:w.grownBy w' G) (hB:some B ≠ G) (hv:l ≠ []→v.ownBlock ≠ G):Src B w' v l m:=by
 have hb:=hg.block B (src_lt h) hB
 obtain ⟨a,s,k1,k2,k3,k4,k5,k6⟩:=h.cells
 have e:∀ i,w'.cell? (J B i) = w.cell? (J B i):=fun i=>yN (a:=(J B i)) hb
 have f:∀ i,w'.frozen? (J B i) = w.frozen? (J B i):=fun i=>World.frozen?_of_block (a:=(J B i)) hb
 refine ⟨?_,h.ne,h.bts,(e 0).trans h.code,⟨a,s,k1,k2,k3,k4,(e 1).trans k5,(e 2).trans k6⟩,(f 1).trans h.free1,(f 2).trans h.free2⟩
 obtain ⟨a,F,rfl,hl,hc⟩:=h.rd
 refine ⟨a,F,rfl,hl,fun xA=>?_⟩
 obtain ⟨b,off,rfl,xn⟩:=hc xA
 exact ⟨b,off,rfl,fun i hi=>(yN (a:=(J b (off + i))) (hg.block b (yH w _ (xn i hi)) (hv xA))).trans (xn i hi)⟩
theorem cN (b:Nat):∀ (vs:List Value) (o:Nat) (w:World),w.grownBy (w.setCells b o vs) (some b)
 | [],o,w=>by rw [World.setCells]; exact yO _ _
 | v :: vs,o,w=>by rw [World.setCells]; exact zQ (gr_set w (J b o) v) (cN b vs (o + 1) _)
theorem cQ {B b o:Nat} {w W:World} {v:Value} {l:List Int} {m:Int} (hv:l ≠ []→∃ k,v.ownBlock = some k∧k < w.heap.size) (h:ax B w v l m W) (hB:B < w.heap.size) (hb:w.heap.size ≤ b) (vs:List Value):ax B w v l m (W.setCells b o vs):=by
 have g:=cN b vs o W
 refine ⟨src_keep h.1 g (fun e=>by have:=Option.some.inj e; omega) (fun xA e=>?_),?_⟩
 ·obtain ⟨k,z,K⟩:=hv xA
  rw [z] at e
  have:=Option.some.inj e
  omega
 ·exact ⟨g.os.trans h.2.os,g.tape.trans h.2.tape,g.output.trans h.2.output,yK h.2.size g.size,fun k hk xA=>(g.block k (yG hk h.2.size) (fun e=>by have:=Option.some.inj e; omega)).trans (h.2.block k hk xA)⟩
def fbit (x:Nat):Nat:=if nanB x = true then 9221120237041090560 else x
theorem floatBits_any (x:Nat) (w:World) :
  Calls Tryz.prog 161 #[yh x] w fun e w'=>e = yk (.int .u64 (fbit x))∧w' = w:=by
 have hb:=fbits
 cases h:nanB x
 case true =>
  have HX:Hid (fbit x = 9221120237041090560):=if_pos h
  go_enter Tryz.func161,Tryz.ntmps161
  go_wp2_with (go_at_call 167; refine (isNaN_any _ _).mono ?_; rintro e w' ⟨rfl,rfl⟩)
  go_ret
  exact ⟨by rw [M HX]; rfl,rfl⟩
 case false =>
  have HX:Hid (fbit x = x):=if_neg (by rw [h]; decide)
  go_enter Tryz.func161,Tryz.ntmps161
  go_wp2_with (go_at_call 167; refine (isNaN_any _ _).mono ?_; rintro e w' ⟨rfl,rfl⟩)
  go_ret
  exact ⟨by rw [M HX]; rfl,rfl⟩
end Go.Proofs.YtbakanofkghmiaaGreat
namespace Go.Proofs.YtbakanofkghmiaaGreat
open Go Ieee

theorem fb:double.fractionBits = 52:=rfl
theorem lp:double.leastPlace = -1074:=by decide
theorem bin:double.binade = 4503599627370496:=by decide
theorem inf:double.infRung = 9218868437227405312:=by decide
theorem sw:double.signWeight = 9223372036854775808:=by decide
theorem read_mag {x:Nat} {s:Bool} {m:Nat} {i:Int} (h:double.read x = .number s m i):m < 9007199254740992:=by
 unfold Format.read at h
 simp only [bin,inf,sw] at h
 split at h
 ·simp only [Datum.number.injEq] at h; omega
 ·split at h
  ·simp only [Datum.number.injEq] at h; omega
  ·split at h <;> cases h
theorem read_zero:double.read 0 = .number false 0 (-1074):=by decide
theorem read_top:double.read 4687829947429945344 = .number false 8589934592000000 (-35):=by decide
theorem read_four:double.read 4616189618054758400 = .number false 4503599627370496 (-50):=by decide
theorem signed_neg (m a:Nat):signed true m a ≤ 0:=by
 show -((m <<< a:Nat):Int) ≤ 0
 exact Int.neg_nonpos_of_nonneg (Int.natCast_nonneg _)
theorem above_zero {x:Nat} (h:double.order x 0 = some .gt):double.read x = .infinity false ∨ ∃ m i,double.read x = .number false m i∧m ≠ 0:=by
 unfold Format.order at h
 rw [read_zero] at h
 cases hx:double.read x with
 | nan s f=>rw [hx] at h; simp [Datum.order] at h
 | infinity s=>cases s with
  | false=>exact .inl rfl
  | true=>rw [hx] at h; simp [Datum.order] at h
 | number s m i =>
  rw [hx] at h
  simp only [Datum.order,Option.some.injEq] at h
  have hz:∀ b,signed false 0 b = 0:=fun b=>by simp [signed]
  rw [hz] at h
  have hgt:=Std.compare_eq_gt.1 h
  cases s with
  | false =>
   refine .inr ⟨m,i,rfl,fun e=>?_⟩
   subst e
   rw [hz] at hgt
   exact absurd hgt (by decide)
  | true =>
   exact absurd hgt (Int.not_lt.2 (signed_neg m _))
theorem log_le {m k:Nat} (hm:m ≠ 0) (h:m < 2 ^ k):m.log2 < k:=(Nat.log2_lt hm).2 h
theorem within {m:Nat} {i:Int} {x:Nat} (hx:double.read x = .number false m i) (hm:m ≠ 0) (h:double.order x 4687829947429945344 = some .lt ∨ double.order x 4687829947429945344 = some .eq):i + m.log2 ≤ 17:=by
 have hmag:=read_mag hx
 unfold Format.order at h
 rw [read_top,hx] at h
 simp only [Datum.order,Option.some.injEq] at h
 have qI:signed false m (i - min i (-35)).toNat ≤ signed false 8589934592000000 (-35 - min i (-35)).toNat:=by
  rcases h with h | h
  ·exact Int.le_of_lt (Std.compare_eq_lt.1 h)
  ·exact Int.le_of_eq (Std.LawfulEqCmp.eq_of_compare h)
 by_cases hi:i < -35
 ·have:=log_le hm (show m < 2 ^ 53 by omega)
  omega
 ·have e1:min i (-35) = -35:=by omega
  rw [e1] at qI
  have e2:((-35:Int) - -35).toNat = 0:=by decide
  rw [e2] at qI
  have hle':(m <<< (i - -35).toNat:Nat) ≤ (8589934592000000 <<< 0:Nat):=by
   have:((m <<< (i - -35).toNat:Nat):Int) ≤ ((8589934592000000 <<< 0:Nat):Int):=qI
   omega
  rw [Nat.shiftLeft_eq,Nat.shiftLeft_zero] at hle'
  have hlog:m.log2 + (i - -35).toNat < 53:=by
   have z:2 ^ m.log2 ≤ m:=Nat.log2_self_le hm
   have K:2 ^ (m.log2 + (i - -35).toNat) ≤ m * 2 ^ (i - -35).toNat:=by
    rw [Nat.pow_add]; exact Nat.mul_le_mul_right _ z
   have h3:2 ^ (m.log2 + (i - -35).toNat) < 2 ^ 53:=by omega
   exact (Nat.pow_lt_pow_iff_right (by decide)).1 h3
  omega
theorem log_up {m:Nat} (hm:m ≠ 0):(m * 4503599627370496).log2 = m.log2 + 52:=by
 have h:=(Nat.log2_eq_iff hm).1 rfl
 refine (Nat.log2_eq_iff (by omega)).2 ?_
 rw [Nat.pow_add,show m.log2 + 52 + 1 = (m.log2 + 1) + 52 by omega,Nat.pow_add 2 (m.log2 + 1) 52,show (2:Nat) ^ 52 = 4503599627370496 from rfl]
 exact ⟨Nat.mul_le_mul_right _ h.1,Nat.mul_lt_mul_of_pos_right h.2 (by decide)⟩
theorem cut_le (n p drop:Nat) (hn:n < 2 ^ (p + 53)) (hp:p ≤ drop) (hl:p ≤ n.log2 + 2):Toward.even.cut false n drop ≤ 9007199254740993:=by
 unfold Toward.cut
 simp only
 have hg:2 ^ p ≤ 1 <<< min drop (n.log2 + 2):=by
  rw [Nat.one_shiftLeft]
  exact Nat.pow_le_pow_right (by decide) (by omega)
 have hq:n / (1 <<< min drop (n.log2 + 2)) ≤ 9007199254740992:=by
  refine yK (Nat.div_le_div_left hg (Nat.two_pow_pos p)) ?_
  have:n / 2 ^ p < 2 ^ 53:=by
   rw [Nat.div_lt_iff_lt_mul (Nat.two_pow_pos p),← Nat.pow_add,Nat.add_comm]
   exact hn
  omega
 have hb:∀ b:Bool,b.toNat ≤ 1:=by decide
 have:=hb (decide (1 <<< min drop (n.log2 + 2) < 2 * (n % 1 <<< min drop (n.log2 + 2))) || (1 <<< min drop (n.log2 + 2) == 2 * (n % 1 <<< min drop (n.log2 + 2)) && n / 1 <<< min drop (n.log2 + 2) % 2 == 1))
 omega
theorem near_le {m:Nat} {i:Int} (hm:m ≠ 0) (hi:i + m.log2 ≤ 17):double.nearest false (m * 4503599627370496) (i + -50) < 1075 * 4503599627370496:=by
 have hmag:¬ m * 4503599627370496 = 0:=by omega
 have hlog:=log_up hm
 have xL:m * 4503599627370496 < 2 ^ (m.log2 + 53):=by
  have h:=((Nat.log2_eq_iff hm).1 rfl).2
  rw [show m.log2 + 53 = (m.log2 + 1) + 52 by omega,Nat.pow_add 2 (m.log2 + 1) 52,show (2:Nat) ^ 52 = 4503599627370496 from rfl]
  exact Nat.mul_lt_mul_of_pos_right h (by decide)
 unfold Format.nearest
 rw [if_neg hmag]
 simp only [hlog,fb,lp,bin,inf,Format.word,Bool.false_eq_true,if_false]
 have hlast:i + -50 + ((m.log2 + 52:Nat):Int) - (52:Nat) ≤ max (i + -50 + ((m.log2 + 52:Nat):Int) - (52:Nat)) (-1074):=Int.le_max_left _ _
 have hup:max (i + -50 + ((m.log2 + 52:Nat):Int) - (52:Nat)) (-1074) ≤ -33:=Int.max_le.2 ⟨by omega,by omega⟩
 generalize max (i + -50 + ((m.log2 + 52:Nat):Int) - (52:Nat)) (-1074) = last at *
 have e0:(i + -50 - last).toNat = 0:=by omega
 rw [e0,Nat.shiftLeft_zero]
 have hc:=cut_le (m * 4503599627370496) m.log2 (last - (i + -50)).toNat xL (by omega) (by omega)
 generalize Toward.even.cut false (m * 4503599627370496) (last - (i + -50)).toNat = kept at *
 have e1:(last - -1074).toNat ≤ 1041:=by omega
 have e2:(last - -1074).toNat * 4503599627370496 ≤ 1041 * 4503599627370496:=Nat.mul_le_mul_right _ e1
 omega
theorem whole {r:Nat} (h:r < 1075 * 4503599627370496):∃ n:Nat,(double.read r).toInt .zero = some (n:Int)∧n < 9007199254740992:=by
 have hneg:(r / 9223372036854775808 % 2 == 1) = false:=by simp; omega
 have hr:r % 9223372036854775808 = r:=by omega
 have cutz:∀ (n d:Nat),Toward.zero.cut false n d ≤ n:=by
  intro n d
  unfold Toward.cut
  simp only [Bool.toNat_false,Nat.add_zero]
  exact Nat.div_le_self _ _
 unfold Format.read
 simp only [bin,inf,sw,hneg,hr,lp]
 split
 ·refine ⟨Toward.zero.cut false (r <<< (-1074:Int).toNat) (1074:Int).toNat,?_,?_⟩
  ·simp [Datum.toInt,Datum.integral,signed]
  ·have:=cutz (r <<< (-1074:Int).toNat) (1074:Int).toNat
   rw [show (-1074:Int).toNat = 0 from rfl,Nat.shiftLeft_zero] at this ⊢
   omega
 ·rw [if_pos (by omega)]
  have hi:(-1074 + ((r / 4503599627370496 - 1:Nat):Int)).toNat = 0:=by omega
  refine ⟨Toward.zero.cut false ((4503599627370496 + r % 4503599627370496) <<< (-1074 + ((r / 4503599627370496 - 1:Nat):Int)).toNat) (-(-1074 + ((r / 4503599627370496 - 1:Nat):Int))).toNat,?_,?_⟩
  ·simp [Datum.toInt,Datum.integral,signed]
  ·have:=cutz ((4503599627370496 + r % 4503599627370496) <<< (-1074 + ((r / 4503599627370496 - 1:Nat):Int)).toNat) (-(-1074 + ((r / 4503599627370496 - 1:Nat):Int))).toNat
   rw [hi,Nat.shiftLeft_zero] at this ⊢
   omega
theorem price_four {x:Nat} (h0:double.order x 0 = some .gt) (z:double.order x 4687829947429945344 = some .lt ∨ double.order x 4687829947429945344 = some .eq) :
  ∃ (r n:Nat),double.mul x 4616189618054758400 = some r∧(double.read r).toInt .zero = some (n:Int)∧n < 9007199254740992:=by
 rcases above_zero h0 with hx | ⟨m,i,hx,hm⟩
 ·exfalso
  unfold Format.order at z
  rw [hx,read_top] at z
  simp [Datum.order] at z
 ·have hw:=within hx hm z
  have jl:double.mul x 4616189618054758400 = some (double.nearest false (m * 4503599627370496) (i + -50)):=by
   unfold Format.mul
   rw [hx,read_four]
   rfl
  obtain ⟨n,K,h3⟩:=whole (near_le hm hw)
  exact ⟨_,n,jl,K,h3⟩
end Go.Proofs.YtbakanofkghmiaaGreat
namespace Go.Proofs.YtbakanofkghmiaaGreat
open Go.RowKit
def tkR (x:Nat):Nat:=(FloatKind.f64.format.mul x 4616189618054758400).getD 0
def tkN (x:Nat):Int:=((FloatKind.f64.decode (tkR x)).toInt .zero).getD 0
def tkOk (x:Nat):Bool:=(FloatKind.f64.format.order x 0 == some Ordering.gt) && ((FloatKind.f64.format.order x 4687829947429945344 == some Ordering.lt) || (FloatKind.f64.format.order x 4687829947429945344 == some Ordering.eq)) &&
 (FloatKind.f64.format.order (floatOfInt .f64 (tkN x)) (tkR x) == some Ordering.eq)
def tk (x:Nat):Int:=if tkOk x = true then tkN x else 0
theorem dD (x:Nat) (w:World) :
  Calls Tryz.prog 19 #[yh x] w fun e w'=>e = yk (.tuple #[H (tk x),.bool (tkOk x)])∧w' = w:=by
 by_cases h0:FloatKind.f64.format.order x 0 = some Ordering.gt
 ·by_cases z:FloatKind.f64.format.order x 4687829947429945344 = some Ordering.lt ∨ FloatKind.f64.format.order x 4687829947429945344 = some Ordering.eq
  ·obtain ⟨r,n,jl,pz,hn⟩:=price_four h0 z
   have hn':(n:Int) < 9007199254740992:=by omega
   have eR:tkR x = r:=by unfold tkR; rw [show FloatKind.f64.format.mul x 4616189618054758400 = some r from jl]; rfl
   have eN:tkN x = n:=by unfold tkN; rw [eR,show (FloatKind.f64.decode r).toInt .zero = some (n:Int) from pz]; rfl
   have b0:(FloatKind.f64.format.order x 0 == some Ordering.gt) = true:=by rw [h0]; rfl
   have hm:∀ W,(binOp .mul 41 (yh x) (yh 4616189618054758400)).run Tryz.prog W = .ok (yh r) W:=fun W=>by
    have:FloatKind.f64.format.mul x 4616189618054758400 = some r:=jl
    simp [binOp,Op.floatArith,this]
   have hc:∀ W,(convert 41 3 (yh r)).run Tryz.prog W = .ok (H n) W:=fun W=>by
    have K:(FloatKind.f64.decode r).toInt .zero = some (n:Int):=pz
    have hb:IntKind.i64.min ≤ (n:Int)∧(n:Int) ≤ IntKind.i64.max:=by
     rw [show IntKind.i64.min = -9223372036854775808 by decide,show IntKind.i64.max = 9223372036854775807 by decide]; omega
    simp [convert,run_underlying Tryz.underlying41,run_underlying Tryz.underlying3,Conv.floatToInt,K,hb.1]
    intro h
    omega
   have qp:((FloatKind.f64.format.order x 4687829947429945344 == some Ordering.lt) || (FloatKind.f64.format.order x 4687829947429945344 == some Ordering.eq)) = true:=by
    rcases z with z | z <;> rw [z] <;> rfl
   have xV:tkOk x = (FloatKind.f64.format.order (floatOfInt .f64 n) r == some Ordering.eq):=by unfold tkOk; rw [eN,eR,b0,qp]; rfl
   clear jl pz h0 qp
   cases he:(FloatKind.f64.format.order (floatOfInt .f64 n) r == some Ordering.eq)
   all_goals
    have he2:(FloatKind.f64.format.order (floatOfInt .f64 n) r != some Ordering.eq) = !(FloatKind.f64.format.order (floatOfInt .f64 n) r == some Ordering.eq):=rfl
    rw [he] at he2
    rw [he] at xV
   ·have HT:Hid (tk x = 0∧tkOk x = false):=⟨by unfold tk; rw [xV]; rfl,xV⟩
    clear xV eN eR
    rcases z with z | z
    ·have b1:(FloatKind.f64.format.order x 4687829947429945344 == some Ordering.lt) = true:=by rw [z]; rfl
     have b2:(FloatKind.f64.format.order x 4687829947429945344 == some Ordering.eq) = false:=by rw [z]; rfl
     clear z
     go_enter Tryz.func19,Tryz.ntmps19
     go_wp2
     go_ret2
     exact ⟨by rw [(M HT).1,(M HT).2]; rfl,rfl⟩
    ·have b1:(FloatKind.f64.format.order x 4687829947429945344 == some Ordering.lt) = false:=by rw [z]; rfl
     have b2:(FloatKind.f64.format.order x 4687829947429945344 == some Ordering.eq) = true:=by rw [z]; rfl
     clear z
     go_enter Tryz.func19,Tryz.ntmps19
     go_wp2
     go_ret2
     exact ⟨by rw [(M HT).1,(M HT).2]; rfl,rfl⟩
   ·have HT:Hid (tk x = n∧tkOk x = true):=⟨by unfold tk; rw [xV,eN]; rfl,xV⟩
    clear xV eN eR
    rcases z with z | z
    ·have b1:(FloatKind.f64.format.order x 4687829947429945344 == some Ordering.lt) = true:=by rw [z]; rfl
     have b2:(FloatKind.f64.format.order x 4687829947429945344 == some Ordering.eq) = false:=by rw [z]; rfl
     clear z
     go_enter Tryz.func19,Tryz.ntmps19
     go_wp2
     go_ret2
     exact ⟨by rw [(M HT).1,(M HT).2]; rfl,rfl⟩
    ·have b1:(FloatKind.f64.format.order x 4687829947429945344 == some Ordering.lt) = false:=by rw [z]; rfl
     have b2:(FloatKind.f64.format.order x 4687829947429945344 == some Ordering.eq) = true:=by rw [z]; rfl
     clear z
     go_enter Tryz.func19,Tryz.ntmps19
     go_wp2
     go_ret2
     exact ⟨by rw [(M HT).1,(M HT).2]; rfl,rfl⟩
  ·have b0:(FloatKind.f64.format.order x 0 == some Ordering.gt) = true:=by rw [h0]; rfl
   have b1:(FloatKind.f64.format.order x 4687829947429945344 == some Ordering.lt) = false:=by rw [xa]; exact fun h=>z (.inl h)
   have b2:(FloatKind.f64.format.order x 4687829947429945344 == some Ordering.eq) = false:=by rw [xa]; exact fun h=>z (.inr h)
   have xV:tkOk x = false:=by unfold tkOk; rw [b0,b1,b2]; rfl
   have HT:Hid (tk x = 0∧tkOk x = false):=⟨by unfold tk; rw [xV]; rfl,xV⟩
   clear h0 z xV
   go_enter Tryz.func19,Tryz.ntmps19
   go_wp2
   go_ret2
   exact ⟨by rw [(M HT).1,(M HT).2]; rfl,rfl⟩
 ·have b0:(FloatKind.f64.format.order x 0 == some Ordering.gt) = false:=by rw [xa]; exact h0
  have xV:tkOk x = false:=by unfold tkOk; rw [b0]; rfl
  have HT:Hid (tk x = 0∧tkOk x = false):=⟨by unfold tk; rw [xV]; rfl,xV⟩
  clear h0 xV
  go_enter Tryz.func19,Tryz.ntmps19
  go_wp2
  go_ret2
  exact ⟨by rw [(M HT).1,(M HT).2]; rfl,rfl⟩
def PrW (p:Nat):Prop:=tkOk p = true→1 ≤ tk p∧tk p ≤ 1000000
end Go.Proofs.YtbakanofkghmiaaGreat
