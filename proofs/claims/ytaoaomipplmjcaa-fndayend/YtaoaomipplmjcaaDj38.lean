/-
  The first order of a day, by the program's library: proved by walking the functions.
-/
import Derived.Test.YtaoaomipplmjcaaDj37
namespace Go.Proofs.Ytaoaomipplmjcaa
open Go.RowKit
set_option linter.unusedVariables false

def fdyF:List Od→Nat→Int
 | [],_=>-1
 | o :: r,k=>if o.life = 1 then k else fdyF r (k + 1)
def fdy (l:List Od):Int:=fdyF l 0
set_option maxHeartbeats 400000 in
theorem zbE (o:Od) (w:World) :
  Calls Try.prog 49 #[.agg #[.int .i64 o.id,.int .i64 o.side,.int .i64 o.ticks,.int .i64 o.left,.int .i64 o.life,.string o.tag]] w fun e w'=>e = .returned (.bool (o.life == 1))∧Below w.heap.size w w':=by
 obtain ⟨oid,side,ticks,left,life,tag⟩:=o
 simp only
 go_enter Try.func49,Try.ntmps49
 go_wp2_with fail
 go_ret
 exact ⟨rfl,by go_grown⟩
set_option maxRecDepth 100000 in
set_option maxHeartbeats 800000 in
theorem indexDay_any (v:Value) (l:List Od) (w:World) (hr:RdR Od.vs 6 w v l) :
  Calls Try.prog 68 #[v,.func (.func 49) #[] #[]] w fun e w'=>e = .returned (.int .i64 (fdy l))∧Below w.heap.size w w':=by
 obtain ⟨a,cap,rfl,hlen,hc⟩:=hr
 have hcell:∀ (k:Nat) (c:Od),l[k]? = some c→∃ b off,a = some ⟨b,off,none⟩∧b < w.heap.size∧w.rangeAt b (off + k * 6) c.vs:=by
  intro k c hk
  obtain ⟨b,off,h1,h2,h3⟩:=hc (by intro h; rw [h] at hk; simp at hk)
  exact ⟨b,off,h1,h2,h3 k c hk⟩
 have HC:=hide hcell
 clear hcell hc
 go_enter Try.func68,Try.ntmps68
 go_wp2_with fail
 go_loopw [8] (fun iv wr=>∃ (k:Nat),k ≤ l.length∧iv = .int .i64 k∧Hid (fdy l = fdyF (l.drop k) k)∧Below w.heap.size w wr) (fun iv _=>l.length - (intOf iv).toNat)
 case atStart=>exact ⟨0,Nat.zero_le _,rfl,rfl,Below.refl _ _⟩
 case round =>
  obtain ⟨k,hk,rfl,hpl,hbel⟩:=hrel
  have HB:=hide hbel
  clear hbel
  by_cases hlt:k < l.length
  ·obtain ⟨c,hkc⟩:∃ c,l[k]? = some c:=⟨_,List.getElem?_eq_getElem hlt⟩
   have HP:Hid (fdy l = if c.life = 1 then (k:Int) else fdyF (l.drop (k + 1)) (k + 1)):=by
    have:=za hpl
    rw [drop_get hkc] at this
    exact this
   obtain ⟨b,off,rfl,hb,hcl⟩:=za HC k c hkc
   obtain ⟨g0,g1,g2,g3,g4,g5⟩:=zA (zb hcl (za HB) hb)
   have hlt':(k:Int) < l.length:=by omega
   clear hkc hcl hb hpl
   go_wp2_with fail
   refine (zbE c wr).mono ?_
   rintro e w3 ⟨rfl,hb3⟩
   have HB3:=hide ((za HB).trans (hb3.mono (za HB).size))
   clear hb3
   by_cases hid:c.life = 1
   ·have hb:(c.life == 1) = true:=by simpa using hid
    have HK:Hid (fdy l = k):=by have:=za HP; rw [if_pos hid] at this; exact this
    clear hid
    go_wp2_with fail
    go_ret
    exact ⟨zx (za HK).symm,za HB3⟩
   ·have hb:(c.life == 1) = false:=by simpa using hid
    have HK:Hid (fdy l = fdyF (l.drop (k + 1)) (k + 1)):=by have:=za HP; rw [if_neg hid] at this; exact this
    clear hid
    go_wp2_with fail
    go_roundw
    case rel=>exact ⟨k + 1,by omega,by go_num,za HK,za HB3⟩
    case measure=>simp [intOf]; omega
  ·have HK:Hid (fdy l = -1):=by
    have h:=za hpl
    rw [List.drop_of_length_le (by omega)] at h
    exact h
   go_wp2_with fail
   go_ret
   exact ⟨zx (za HK).symm,za HB⟩
end Go.Proofs.Ytaoaomipplmjcaa
namespace Go.Proofs.Ytaoaomipplmjcaa
open Go.RowKit
set_option linter.unusedVariables false

def ndy (o:Od):Bool:=!(o.life == 1)
theorem fdyF_spec:∀ (l:List Od) (k:Nat),(fdyF l k = -1∧l.filter ndy = l) ∨ ∃ i o,fdyF l k = ((k + i:Nat):Int)∧l[i]? = some o∧o.life = 1∧(l.take i).filter ndy = l.take i
 | [],k=>.inl ⟨rfl,rfl⟩
 | o :: r,k=>by
  by_cases h:o.life = 1
  ·exact .inr ⟨0,o,by rw [fdyF,if_pos h]; rfl,rfl,h,rfl⟩
  ·have hn:ndy o = true:=by simp [ndy,h]
   rcases fdyF_spec r (k + 1) with ⟨h1,h2⟩ | ⟨i,o',h1,h2,h3,h4⟩
   ·exact .inl ⟨by rw [fdyF,if_neg h,h1],by rw [List.filter_cons_of_pos hn,h2]⟩
   ·exact .inr ⟨i + 1,o',by rw [fdyF,if_neg h,h1]; congr 1; omega,h2,h3,by rw [List.take_succ_cons,List.filter_cons_of_pos hn,h4]⟩
theorem take_day {l:List Od} {j:Nat} {o:Od} (h:l[j]? = some o) (hd:o.life = 1):(l.take (j + 1)).filter ndy = (l.take j).filter ndy:=by
 rw [List.take_add_one,h,List.filter_append]
 simp [ndy,hd]
theorem take_stay {l:List Od} {j:Nat} {o:Od} (h:l[j]? = some o) (hd:o.life ≠ 1):(l.take (j + 1)).filter ndy = (l.take j).filter ndy ++ [o]:=by
 rw [List.take_add_one,h,List.filter_append]
 simp [ndy,hd]
theorem oRow_put {W:World} {B g n cap k:Nat} {m:List Od} {c x:Od} (h:ORow W B (.slice (some ⟨g,0,none⟩) n cap) m) (hn:m.length = n) (hk:m[k]? = some c) :
  ORow (W.setCells g (k * 6) x.vs) B (.slice (some ⟨g,0,none⟩) n cap) (m.set k x)∧W.grownBy (W.setCells g (k * 6) x.vs) (some g):=by
 have hkl:=(List.getElem?_eq_some_iff.1 hk).1
 have one:∀ (W:World) (m:List Od) (c d:Od) (j:Nat) (u:Value),ORow W B (.slice (some ⟨g,0,none⟩) n cap) m→m.length = n→m[k]? = some c→j < 6→d.vs = c.vs.set j u →
   ORow (W.setCell ⟨g,k * 6 + j,none⟩ u) B (.slice (some ⟨g,0,none⟩) n cap) (m.set k d)∧W.grownBy (W.setCell ⟨g,k * 6 + j,none⟩ u) (some g):=by
  intro W m c d j u h hn hk hj hd
  subst hn
  have s:=World.ownsRow.stored h (k * 6 + j) u
  refine ⟨?_,s.2⟩
  have e:=flat_set Od.len m k j c d u hk hj hd
  show World.ownsRow _ _ _ _ _ (m.set k _).length _
  rw [List.length_set,← e]; exact s.1
 have gs:∀ (m:List Od) (d:Od),m.length = n→k < m.length→(m.set k d)[k]? = some d:=fun m d _ hk=>List.getElem?_set_self hk
 obtain ⟨xi,xs,xt,xl,xf,xg⟩:=x
 obtain ⟨ci,cs,ct,cl,cf,cg⟩:=c
 have a0:=one W m ⟨ci,cs,ct,cl,cf,cg⟩ ⟨xi,cs,ct,cl,cf,cg⟩ 0 (.int .i64 xi) h hn hk (by omega) rfl
 have a1:=one _ _ ⟨xi,cs,ct,cl,cf,cg⟩ ⟨xi,xs,ct,cl,cf,cg⟩ 1 (.int .i64 xs) a0.1 (by simp [hn]) (gs m _ hn hkl) (by omega) rfl
 rw [List.set_set] at a1
 have a2:=one _ _ ⟨xi,xs,ct,cl,cf,cg⟩ ⟨xi,xs,xt,cl,cf,cg⟩ 2 (.int .i64 xt) a1.1 (by simp [hn]) (gs m _ hn hkl) (by omega) rfl
 rw [List.set_set] at a2
 have a3:=one _ _ ⟨xi,xs,xt,cl,cf,cg⟩ ⟨xi,xs,xt,xl,cf,cg⟩ 3 (.int .i64 xl) a2.1 (by simp [hn]) (gs m _ hn hkl) (by omega) rfl
 rw [List.set_set] at a3
 have a4:=one _ _ ⟨xi,xs,xt,xl,cf,cg⟩ ⟨xi,xs,xt,xl,xf,cg⟩ 4 (.int .i64 xf) a3.1 (by simp [hn]) (gs m _ hn hkl) (by omega) rfl
 rw [List.set_set] at a4
 have a5:=one _ _ ⟨xi,xs,xt,xl,xf,cg⟩ ⟨xi,xs,xt,xl,xf,xg⟩ 5 (.string xg) a4.1 (by simp [hn]) (gs m _ hn hkl) (by omega) rfl
 rw [List.set_set] at a5
 exact ⟨a5.1,a0.2.trans (a1.2.trans (a2.2.trans (a3.2.trans (a4.2.trans a5.2))))⟩
theorem clear_rowN {P:Program} (w:World) (T ty e:TypeId) (i:TypeInfo) (z:Value) (ht:P.underlying T = some (.slice e)) (hi:P.info? e = some i) (hz:i.zero = some z) (g o m c:Nat) (cur:Array Value) (hg:w.heap[g]? = some (.cells cur e (0,0)))
  (hfit:o + (Builtin.zeroCells z.cells (m + 1)).toList.length ≤ cur.size) (h1:∀ v ∈ (Builtin.zeroCells z.cells (m + 1)).toList,v.oneCell' = true) :
  (Builtin.clear_ #[T] ty #[.slice (some ⟨g,o,none⟩) (m + 1) c]).run P w = .ok (.tuple #[]) (w.setRow g (cur.toList.take o ++ (Builtin.zeroCells z.cells (m + 1)).toList ++ cur.toList.drop (o + (Builtin.zeroCells z.cells (m + 1)).toList.length)).toArray):=by
 have hst:=run_storeCells_at P g o e (Builtin.zeroCells z.cells (m + 1)).toList 0 cur w hg (by simpa using hfit) h1
 simp only [Nat.add_zero] at hst
 simp [Builtin.clear_,run_underlying ht,zeroValue,typeInfo,hi,hz,hst]
theorem zero_len (m:Nat):(Builtin.zeroCells (Value.cells (.agg #[.int .i64 0,.int .i64 0,.int .i64 0,.int .i64 0,.int .i64 0,.string ⟨#[]⟩])) m).toList.length = m * 6:=by
 simp [Builtin.zeroCells,Value.cells]
theorem zero_one (m:Nat):∀ v ∈ (Builtin.zeroCells (Value.cells (.agg #[.int .i64 0,.int .i64 0,.int .i64 0,.int .i64 0,.int .i64 0,.string ⟨#[]⟩])) m).toList,v.oneCell' = true:=by
 intro v hv
 simp only [Builtin.zeroCells,Value.cells,Array.toList_map,List.mem_map] at hv
 obtain ⟨i,_,rfl⟩:=hv
 show (#[Value.int .i64 0,.int .i64 0,.int .i64 0,.int .i64 0,.int .i64 0,.string ⟨#[]⟩][i % 6]!).oneCell' = true
 rcases (by omega:i % 6 = 0 ∨ i % 6 = 1 ∨ i % 6 = 2 ∨ i % 6 = 3 ∨ i % 6 = 4 ∨ i % 6 = 5) with e | e | e | e | e | e <;> rw [e] <;> rfl
theorem drop_eq {l m:List Od} {j:Nat} (h:m.drop j = l.drop j):m[j]? = l[j]?:=by
 have:=congrArg (·[0]?) h
 simpa using this
theorem drop_more {l m:List Od} {j:Nat} (h:m.drop j = l.drop j):m.drop (j + 1) = l.drop (j + 1):=by
 have:=congrArg (List.drop 1) h
 simpa using this
set_option maxRecDepth 100000 in
set_option maxHeartbeats 6400000 in
theorem deleteDay_any (g cap B:Nat) (l:List Od) (w:World) (hn:l.length ≤ 1000) (ho:ORow w B (.slice (some ⟨g,0,none⟩) l.length cap) l) :
  Calls Try.prog 50 #[.slice (some ⟨g,0,none⟩) l.length cap,.func (.func 49) #[] #[]] w fun e w'=>e = .returned (.slice (some ⟨g,0,none⟩) (l.filter ndy).length cap)∧ORow w' B (.slice (some ⟨g,0,none⟩) (l.filter ndy).length cap) (l.filter ndy)∧w.grownBy w' (some g):=by
 obtain ⟨i0,hi0,hz0,hz1,hz2⟩:=info_parts Try.infoOrder
 have HO:=hide ho
 have hgw:g < w.heap.size:=(ho.lt g rfl).2
 clear ho
 go_enter Try.func50,Try.ntmps50
 go_wp2_with fail
 refine (indexDay_any _ l w (zW (za HO) (by omega))).mono ?_
 rcases fdyF_spec l 0 with ⟨h1,h2⟩ | ⟨i,o,h1,h2,h3,h4⟩
 ·have hf:fdy l = -1:=h1
  rw [hf]
  rintro e w2 ⟨rfl,hb2⟩
  have HO2:=hide (zJ (za HO) hb2)
  have HG2:Hid (w.grownBy w2 (some g)):=zQ hb2 (Nat.le_refl _)
  have HF:=hide h2
  clear hb2 h1 h2 hf
  go_wp2_with fail
  go_ret
  rw [za HF]
  exact ⟨rfl,za HO2,za HG2⟩
 ·have hf:fdy l = (i:Int):=by rw [fdy,h1]; congr 1; omega
  rw [hf]
  rintro e w2 ⟨rfl,hb2⟩
  have hil:=(List.getElem?_eq_some_iff.1 h2).1
  have HST:Hid (∃ m:List Od,m.length = l.length∧ORow w2 B (.slice (some ⟨g,0,none⟩) l.length cap) m∧m.take i = (l.take (i + 1)).filter ndy∧m.drop (i + 1) = l.drop (i + 1)∧w.grownBy w2 (some g)):=⟨l,rfl,zJ (za HO) hb2,by rw [take_day h2 h3,h4],rfl,zQ hb2 (Nat.le_refl _)⟩
  have HIL:Hid (((l.take (i + 1)).filter ndy).length = i):=by show _ = _; rw [take_day h2 h3,h4,List.length_take]; omega
  have hi1:(i:Int) ≠ -1:=by omega
  have hi1':((i:Int) == -1) = false:=by rw [beq_eq_false_iff_ne]; exact hi1
  clear hb2 h1 h2 h3 h4 hf
  go_wp2_with fail
  go_loopw [5,6] (fun iv jv wr=>∃ (k j:Nat) (m:List Od),j ≤ l.length∧k < j∧iv = .int .i64 k∧jv = .int .i64 j∧Hid (m.length = l.length∧ORow wr B (.slice (some ⟨g,0,none⟩) l.length cap) m∧m.take k = (l.take j).filter ndy∧((l.take j).filter ndy).length = k∧m.drop j = l.drop j∧w.grownBy wr (some g))) (fun _ jv _=>l.length - (intOf jv).toNat)
  case atStart =>
   obtain ⟨m,a1,a2,a3,a4,a5⟩:=za HST
   exact ⟨i,i + 1,m,by omega,by omega,rfl,by go_num,⟨a1,a2,a3,za HIL,a4,a5⟩⟩
  case round =>
   obtain ⟨k,j,m,hj,hkj,rfl,rfl,hin⟩:=hrel
   obtain ⟨a1,a2,a3,a4,a5,a6⟩:=za hin
   by_cases hlt:j < l.length
   ·obtain ⟨o,hjo⟩:∃ o,l[j]? = some o:=⟨_,List.getElem?_eq_getElem hlt⟩
    have hmo:m[j]? = some o:=(drop_eq a5).trans hjo
    obtain ⟨c,hkc⟩:∃ c,m[k]? = some c:=⟨_,List.getElem?_eq_getElem (by omega)⟩
    obtain ⟨g0,g1,g2,g3,g4,g5⟩:=zA (row_hereE a2 (by omega) hmo).1
    have hlt':(j:Int) < l.length:=by omega
    have hj0:(0:Int) ≤ j:=by omega
    have hgr:g < wr.heap.size:=(a2.lt g rfl).2
    have HJO:=hide hjo
    have HKC:=hide hkc
    have hbx:Below wr.heap.size wr (wr.alloc (Obj.cells #[.int .i64 o.id,.int .i64 o.side,.int .i64 o.ticks,.int .i64 o.left,.int .i64 o.life,.string o.tag] 36)):=(Below.refl _ _).alloc (Nat.le_refl _) _
    have HBX:=hide hbx
    have HBR:Hid (World.rangeAt (wr.alloc (Obj.cells #[.int .i64 o.id,.int .i64 o.side,.int .i64 o.ticks,.int .i64 o.left,.int .i64 o.life,.string o.tag] 36)) wr.heap.size 0 o.vs):=zd wr o.vs _
    have hsx:wr.heap.size < (wr.alloc (Obj.cells #[.int .i64 o.id,.int .i64 o.side,.int .i64 o.ticks,.int .i64 o.left,.int .i64 o.life,.string o.tag] 36)).heap.size:=by rw [zc]; omega
    clear hjo hmo hkc hbx a1 a2 a3 a4 a5 a6
    go_wp2_with fail
    generalize (wr.alloc (Obj.cells #[.int .i64 o.id,.int .i64 o.side,.int .i64 o.ticks,.int .i64 o.left,.int .i64 o.life,.string o.tag] 36)) = Y at HBX HBR hsx ⊢
    refine (zbE o Y).mono ?_
    rintro e w3 ⟨rfl,hb3⟩
    have HB3:=hide ((za HBX).trans (hb3.mono (za HBX).size))
    have hbr:=zb (za HBR) hb3 hsx
    have x0:w3.cell? ⟨wr.heap.size,0,none⟩ = some (.int .i64 o.id):=hbr 0 _ rfl
    have x1:w3.cell? ⟨wr.heap.size,1,none⟩ = some (.int .i64 o.side):=hbr 1 _ rfl
    have x2:w3.cell? ⟨wr.heap.size,2,none⟩ = some (.int .i64 o.ticks):=hbr 2 _ rfl
    have x3:w3.cell? ⟨wr.heap.size,3,none⟩ = some (.int .i64 o.left):=hbr 3 _ rfl
    have x4:w3.cell? ⟨wr.heap.size,4,none⟩ = some (.int .i64 o.life):=hbr 4 _ rfl
    have x5:w3.cell? ⟨wr.heap.size,5,none⟩ = some (.string o.tag):=hbr 5 _ rfl
    clear hb3 hbr g0 g1 g2 g3 g4 g5
    obtain ⟨a1,a2,a3,a4,a5,a6⟩:=za hin
    have a2':=zJ a2 (za HB3)
    have HA2:=hide a2'
    have HG3:Hid (w.grownBy w3 (some g)):=a6.trans (zQ (za HB3) (Nat.le_refl _))
    have HA:Hid (m.length = l.length∧m.take k = (l.take j).filter ndy∧((l.take j).filter ndy).length = k∧m.drop j = l.drop j):=⟨a1,a3,a4,a5⟩
    have hck:=row_hereE a2' (by omega) (za HKC)
    by_cases hd:o.life = 1
    ·have hb:(o.life == 1) = true:=by simpa using hd
     have HN:Hid (m.length = l.length∧ORow w3 B (.slice (some ⟨g,0,none⟩) l.length cap) m∧m.take k = (l.take (j + 1)).filter ndy∧((l.take (j + 1)).filter ndy).length = k∧m.drop (j + 1) = l.drop (j + 1)∧w.grownBy w3 (some g)):=by
      rw [take_day (za HJO) hd]
      exact ⟨a1,a2',a3,a4,drop_more a5,za HG3⟩
     clear hd a1 a2 a3 a4 a5 a6 a2' hck
     go_wp2_with fail
     go_roundw
     case rel=>exact ⟨k,j + 1,m,by omega,by omega,rfl,by go_num,za HN⟩
     case measure=>simp [intOf]; omega
    ·have hb:(o.life == 1) = false:=by rw [beq_eq_false_iff_ne]; exact hd
     have hput:=oRow_put (x:=o) a2' a1 (za HKC)
     have HN:Hid ((m.set k o).length = l.length∧ORow (w3.setCells g (k * 6) o.vs) B (.slice (some ⟨g,0,none⟩) l.length cap) (m.set k o)∧(m.set k o).take (k + 1) = (l.take (j + 1)).filter ndy∧((l.take (j + 1)).filter ndy).length = k + 1∧(m.set k o).drop (j + 1) = l.drop (j + 1)∧w.grownBy (w3.setCells g (k * 6) o.vs) (some g)):=by
      rw [take_stay (za HJO) hd]
      refine ⟨by rw [List.length_set]; exact a1,hput.1,?_,by rw [List.length_append,a4]; rfl,?_,(za HG3).trans hput.2⟩
      ·rw [List.take_add_one,List.getElem?_set_self (by omega),List.take_set_of_le (Nat.le_refl _),a3]; rfl
      ·rw [List.drop_set_of_lt (by omega)]; exact drop_more a5
     obtain ⟨p0,p1,p2,p3,p4,p5⟩:=zA hck.1
     have q0:w3.frozen? ⟨g,k * 6,none⟩ = false:=hck.2 0 (by omega)
     have q1:w3.frozen? ⟨g,k * 6 + 1,none⟩ = false:=hck.2 1 (by omega)
     have q2:w3.frozen? ⟨g,k * 6 + 2,none⟩ = false:=hck.2 2 (by omega)
     have q3:w3.frozen? ⟨g,k * 6 + 3,none⟩ = false:=hck.2 3 (by omega)
     have q4:w3.frozen? ⟨g,k * 6 + 4,none⟩ = false:=hck.2 4 (by omega)
     have q5:w3.frozen? ⟨g,k * 6 + 5,none⟩ = false:=hck.2 5 (by omega)
     have hkl:(k:Int) < l.length:=by omega
     have hk0:(0:Int) ≤ k:=by omega
     clear hd a1 a2 a3 a4 a5 a6 a2' hck hput
     go_wp2_with fail
     go_roundw
     case rel=>exact ⟨k + 1,j + 1,m.set k o,by omega,by omega,by go_num,by go_num,za HN⟩
     case measure=>simp [intOf]; omega
   ·obtain rfl:j = l.length:=by omega
    rw [List.take_of_length_le (Nat.le_refl _)] at a3 a4
    obtain ⟨mm,hmm⟩:∃ mm,l.length - k = mm + 1:=⟨l.length - k - 1,by omega⟩
    rcases a2.2 with ⟨hbad,_⟩ | ⟨g',cap',cur,hv,hBg,hgg,hcap,hmx,hsz,htk⟩
    ·cases hbad
    simp only [Value.slice.injEq,Option.some.injEq,Addr.mk.injEq,and_true] at hv
    obtain ⟨rfl,-,rfl⟩:=hv
    have hzl:=zero_len (mm + 1)
    have hfit:k * 6 + (mm + 1) * 6 ≤ cur.size:=by rw [hsz]; omega
    have hcl:∀ (ty:TypeId) (c:Nat),(Builtin.clear_ #[23] ty #[.slice (some ⟨g,k * 6,none⟩) (l.length - k) c]).run Try.prog wr = .ok (.tuple #[]) (wr.setRow g (cur.toList.take (k * 6) ++ (Builtin.zeroCells (Value.cells (.agg #[.int .i64 0,.int .i64 0,.int .i64 0,.int .i64 0,.int .i64 0,.string ⟨#[]⟩])) (mm + 1)).toList ++ cur.toList.drop (k * 6 + (mm + 1) * 6)).toArray):=fun ty c=>by
     rw [hmm]
     have:=clear_rowN wr 23 ty 36 i0 _ Try.underlying23 hi0 hz0 g (k * 6) mm c cur hgg (by rw [hzl]; exact hfit) (zero_one _)
     rw [hzl] at this
     exact this
    generalize hZ:(Builtin.zeroCells (Value.cells (.agg #[.int .i64 0,.int .i64 0,.int .i64 0,.int .i64 0,.int .i64 0,.string ⟨#[]⟩])) (mm + 1)).toList = Z at hzl hcl
    have hl2:(cur.toList.take (k * 6) ++ Z ++ cur.toList.drop (k * 6 + (mm + 1) * 6)).length = cap * 6:=by
     have hcl:cur.toList.length = cap * 6:=by simpa using hsz
     rw [List.length_append,List.length_append,hzl,List.length_take,List.length_drop,hcl]; rw [hsz] at hfit; omega
    have ht2:(cur.toList.take (k * 6) ++ Z ++ cur.toList.drop (k * 6 + (mm + 1) * 6)).take (k * 6) = (l.filter ndy).flatMap Od.vs:=by
     have hcl:cur.toList.length = cap * 6:=by simpa using hsz
     have hkc:(cur.toList.take (k * 6)).length = k * 6:=by rw [List.length_take,hcl]; rw [hsz] at hfit; omega
     rw [List.append_assoc,List.take_append_of_le_length (by omega),List.take_of_length_le (by omega)]
     have h:=congrArg (List.take (k * 6)) htk
     rw [List.take_take,show min (k * 6) (m.length * 6) = k * 6 by omega] at h
     rw [h,← a3]
     conv=>lhs; rw [← List.take_append_drop k m,List.flatMap_append]
     rw [List.take_append_of_le_length (by rw [zP Od.len,List.length_take]; omega),List.take_of_length_le (by rw [zP Od.len,List.length_take]; omega)]
    have HX2:=hide (setRow_heap wr g cur (cur.toList.take (k * 6) ++ Z ++ cur.toList.drop (k * 6 + (mm + 1) * 6)).toArray 36 (0,0) hgg)
    have HG2:Hid (w.grownBy (wr.setRow g (cur.toList.take (k * 6) ++ Z ++ cur.toList.drop (k * 6 + (mm + 1) * 6)).toArray) (some g)):=a6.trans ⟨rfl,rfl,rfl,by simp,fun q hq hne=>setRow_other wr g q _ (fun e=>hne (by rw [e]))⟩
    generalize (cur.toList.take (k * 6) ++ Z ++ cur.toList.drop (k * 6 + (mm + 1) * 6)) = C2 at hl2 ht2 hcl HX2 HG2
    have HFK:=hide a4
    have HL2:=hide hl2
    have HT2:=hide ht2
    have HMM:=hide hmm
    have k1:¬ cap = k:=by omega
    have k2:(k:Int) ≤ l.length:=by omega
    have k3:(0:Int) ≤ k:=by omega
    have k4:(l.length:Int) ≤ cap:=by omega
    have k5:(k:Int) ≤ cap:=by omega
    have k6:¬ (l.length:Int) < l.length:=by omega
    have HB:=hide (And.intro hBg (And.intro hmx hcap))
    clear hzl hZ hl2 ht2 hmm hfit htk hsz hgg a1 a2 a3 a4 a5 a6 hlt hj hin HST HIL
    go_wp2_with fail
    go_ret
    have e:=za HFK
    refine ⟨by rw [e]; rfl,⟨by rw [zP Od.len],.inr ⟨g,cap,C2.toArray,by rw [e],(za HB).1,za HX2,by rw [e]; omega,(za HB).2.1,by simpa using za HL2,by rw [e]; simpa using za HT2⟩⟩,za HG2⟩
end Go.Proofs.Ytaoaomipplmjcaa
