/- Frames in new memory: the loop of Twin, with rows in places. -/
import Derived.Test.YtablhcjjfiepaaaFrtwin
import Derived.Test.YtablhcjjfiepaaaMix
namespace Go.Proofs.Ytablhcjjfiepaaa
open Go.Eng
set_option linter.unusedVariables false
set_option linter.unusedSimpArgs false
abbrev MFr:=Int×(Int×(MixE Int×(MixE Int×(Bool×(Bool×Unit)))))
def vZw (x : FrT) : MFr:=(x.1,(x.2.1,((Dat.zJb x.2.2.1),((Dat.zJb x.2.2.2.1),(x.2.2.2.2.1,(x.2.2.2.2.2.1,x.2.2.2.2.2.2))))))
def wJl (k : Nat) (x : FrT) : MFr:=(x.1,(x.2.1,((Dat.xrow k x.2.2.1),((Dat.xrow k x.2.2.2.1),(x.2.2.2.2.1,(x.2.2.2.2.2.1,()))))))
def mixF (i : Nat) (l : List FrT) : List MFr:=l.mapIdx fun j x=>if j < i then wJl j x else vZw x
theorem zW2 (i : Nat) (l : List FrT) : (mixF i l).length=l.length:=by simp [mixF]
theorem zJj (i : Nat) (l : List FrT) (j : Nat) (h : j < (mixF i l).length) : (mixF i l)[j]=if j < i then wJl j (l[j]'(by rw [← zW2 i l]; exact h)) else vZw (l[j]'(by rw [← zW2 i l]; exact h)):=by
 simp [mixF]
theorem vZu (i : Nat) (l : List FrT) (h : i < l.length) : (mixF i l).set i (wJl i l[i])=mixF (i+1) l:=by
 refine List.ext_getElem (by simp [zW2]) fun j h1 h2=>?_
 rw [List.getElem_set]
 by_cases e : i=j
 ·subst e
  rw [if_pos rfl,zJj,if_pos (by omega)]
 ·rw [if_neg e, zJj, zJj]
  by_cases hlt : j < i
  ·rw [if_pos hlt,if_pos (by omega)]
  ·rw [if_neg hlt,if_neg (by omega)]
theorem wW6 {α β : Type} {f : α → Option β} : ∀ {M : List α} {L : List β}, M.length = L.length → (∀ i (h : i < M.length) (h' : i < L.length), f M[i] = some L[i]) → Dat.mapO f M = some L
 | [],[],_,_=>rfl
 | [],y::L,h,_=>by simp at h
 | x::M,[],h,_=>by simp at h
 | x::M,y::L,h,k=>by
  have ih : M.mapM f=some L:=wW6 (M:=M) (L:=L) (by simpa using h) fun i h1 h2=>k (i+1) (by simpa using h1) (by simpa using h2)
  have h0 : f x=some y:=k 0 (by simp) (by simp)
  show (x::M).mapM f=some (y::L)
  simp only [List.mapM_cons,h0,Option.bind_eq_bind,Option.bind_some,ih,Option.pure_def]
theorem wQh (l : List FrT) {f : FrT→Option MFr} (hf : ∀ x,f x=some (vZw x)) : Dat.mapO f l=some (mixF 0 l):=by
 refine wW6 (zW2 0 l).symm fun i h h'=>?_
 rw [hf,zJj,if_neg (by omega)]
theorem wX9 {α : Type} {Q : List (List α)} {k : Nat} {d : List α} (h : Q[k]?=some d) : Dat.XOk Q (Dat.xrow k d)∧Dat.xget Q (Dat.xrow k d)=d∧Dat.xlen (Dat.xrow k d)=d.length:=by
 have hk:=(List.getElem?_eq_some_iff.1 h).1
 have hg : Q.getD k []=d:=by simp [List.getD,h]
 by_cases hd : d.length=0
 ·have : d = [] := List.length_eq_zero_iff.1 hd
  subst this
  simp [Dat.xrow,Dat.XOk,MixE.xok,Dat.xget,Dat.xlen]
 ·refine ⟨?_, ?_, ?_⟩
  ·simp only [Dat.XOk, Dat.xrow, if_neg hd, MixE.xok, Bool.and_eq_true, decide_eq_true_eq, beq_iff_eq]
   refine ⟨hk, ?_, ?_⟩<;>first | (rw [hg]; done) | (rw [hg]; omega) | omega
  ·simp only [Dat.xrow,if_neg hd,Dat.xget,hg,List.drop_zero,List.take_length]
  ·simp only [Dat.xrow,if_neg hd,Dat.xlen]
theorem uQv (l : List MFr) {i : Nat} (h : i < l.length) (z : MFr) : Dat.get l (Dat.addN 0 (Dat.toN (i : Int))) z=l[i]:=by
 simp [Dat.get,Dat.toN,List.getD,h]
abbrev TwS:=List MFr×(List (List Int)×(List (List Int)×Int))
theorem xYr {β : Type} (l : List FrT) (hs : zW0 l) (r : β) (fin : TwS → Option β) (hfin : fin (mixF l.length l, l.map (fun x => x.2.2.1), l.map (fun x => x.2.2.2.1), (l.length : Int)) = some r) :
    Dat.loop (fun (s106 : TwS) k107 =>
 (bif (Dat.ilt s106.2.2.2 (Dat.ofN (Dat.len l))) then if (Dat.In s106.2.2.2 (Dat.len l)) then if (Dat.Lt (Dat.addN 0 (Dat.toN s106.2.2.2)) (Dat.len s106.1)) then Dat.bnd (Dat.get s106.1 (Dat.addN 0 (Dat.toN s106.2.2.2)) (0,(0,((MixE.nil : MixE (Int)),((MixE.nil : MixE (Int)),(false,(false,()))))))) fun (x112 : MFr) =>
 if (Dat.XOk s106.2.1 x112.2.2.1) then Dat.bnd (Dat.xget s106.2.1 x112.2.2.1) fun (x115 : List (Int)) =>
 Dat.bind (zQz x115) fun (x116 : List (Int)) =>
 Dat.bnd (Dat.app s106.2.1 (x116::([] : List (List (Int))))) fun (x117 : List (List (Int))) =>
 if (Dat.XOk s106.2.2.1 x112.2.2.2.1) then Dat.bnd (Dat.xget s106.2.2.1 x112.2.2.2.1) fun (x120 : List (Int)) =>
 Dat.bind (zQ0 x120) fun (x121 : List (Int)) =>
 Dat.bnd (Dat.app s106.2.2.1 (x121::([] : List (List (Int))))) fun (x122 : List (List (Int))) =>
 if (Dat.In s106.2.2.2 (Dat.len l)) then if (Dat.Lt (Dat.addN 0 (Dat.toN s106.2.2.2)) (Dat.len s106.1)) then Dat.bnd (Dat.get s106.1 (Dat.addN 0 (Dat.toN s106.2.2.2)) (0,(0,((MixE.nil : MixE (Int)),((MixE.nil : MixE (Int)),(false,(false,()))))))) fun (x127 : MFr) =>
 Dat.bnd (Dat.set s106.1 (Dat.addN 0 (Dat.toN s106.2.2.2)) (x127.1,(x127.2.1,((Dat.xrow (Dat.len s106.2.1) x116),(x127.2.2.2.1,(x127.2.2.2.2.1,(x127.2.2.2.2.2.1,()))))))) fun (x128 : List MFr) =>
 if (Dat.In s106.2.2.2 (Dat.len l)) then if (Dat.Lt (Dat.addN 0 (Dat.toN s106.2.2.2)) (Dat.len x128)) then Dat.bnd (Dat.get x128 (Dat.addN 0 (Dat.toN s106.2.2.2)) (0,(0,((MixE.nil : MixE (Int)),((MixE.nil : MixE (Int)),(false,(false,()))))))) fun (x133 : MFr) =>
 Dat.bnd (Dat.set x128 (Dat.addN 0 (Dat.toN s106.2.2.2)) (x133.1,(x133.2.1,(x133.2.2.1,((Dat.xrow (Dat.len s106.2.2.1) x121),(x133.2.2.2.2.1,(x133.2.2.2.2.2.1,()))))))) fun (x134 : List MFr) =>
 Dat.bnd (Dat.wrap .i64 (Dat.add s106.2.2.2 1)) fun (x135 : Int) =>
 k107 (x134,(x117,(x122,x135)))
 else none
 else none
 else none
 else none
 else none
 else none
 else none
 else none
 else fin s106)) (mixF 0 l,(([] : List (List (Int))),(([] : List (List (Int))),0)))=some r:=by
  refine zQ2 (fun (s : TwS)=>∃ i : Nat,i≤l.length∧s=(mixF i l,(l.take i).map (fun x=>x.2.2.1),(l.take i).map (fun x=>x.2.2.2.1),(i : Int))) (fun s=>l.length - s.2.2.2.toNat) ?_ ⟨0,Nat.zero_le _,rfl⟩ (zK1 _ _ (by have:=hs.1; omega))
  rintro ⟨s1,s2,s3,s4⟩ k ⟨i,hi,he⟩ hk
  simp only [Prod.mk.injEq] at he
  obtain ⟨rfl,rfl,rfl,rfl⟩:=he
  dsimp only at hk ⊢
  by_cases hlt : i < l.length
  · have hsm := hs.2 _ (List.getElem_mem hlt)
    have hml : i < (mixF i l).length:=by rw [zW2]; exact hlt
    have hin : Dat.In (i : Int) (Dat.len l):=⟨by omega,by simp only [Dat.len]; omega⟩
    have hl2 : Dat.Lt (Dat.addN 0 (Dat.toN (i : Int))) (Dat.len (mixF i l)):=by simp only [Dat.Lt,Dat.len,zW2,Dat.addN,Dat.toN]; omega
    have hti : (l.take i).length=i:=by rw [List.length_take]; omega
    have hgi : (mixF i l)[i]=vZw l[i]:=by rw [zJj,if_neg (by omega)]
    have hai : Dat.addN 0 (Dat.toN (i : Int))=i:=by simp [Dat.addN,Dat.toN]
    refine zQi (decide_eq_true (by simp only [Dat.ofN,Dat.len]; omega)) ?_
    refine zQb hin (zQb hl2 ?_)
    refine zQe ((uQv _ hml _).trans hgi) ?_
    refine zQb rfl (zQe (y:=l[i].2.2.1) rfl ?_)
    refine zQp (wXy _ (by omega)) ?_
    refine zQe rfl ?_
    refine zQb rfl (zQe (y:=l[i].2.2.2.1) rfl ?_)
    refine zQp (wXx _ (by omega)) ?_
    refine zQe rfl ?_
    refine zQb hin (zQb hl2 ?_)
    refine zQe ((uQv _ hml _).trans hgi) ?_
    refine zQe rfl ?_
    refine zQb hin (zQb (by simp only [Dat.Lt,Dat.len,Dat.set,List.length_set,zW2,Dat.addN,Dat.toN]; omega) ?_)
    rw [hai]
    refine zQe (y:=(l[i].1,(l[i].2.1,((Dat.xrow i l[i].2.2.1),((Dat.zJb l[i].2.2.2.1),(l[i].2.2.2.2.1,(l[i].2.2.2.2.2.1,()))))))) ?_ ?_
    · simp only [Dat.get, Dat.set, List.getD, List.getElem?_set, hml, if_true, Option.getD_some, Dat.len, List.length_map, hti]
      rfl
    refine zQe (y:=mixF (i+1) l) ?_ ?_
    · show ((mixF i l).set i _).set i _ = _
      rw [List.set_set,← vZu i l hlt]
      simp only [Dat.len,List.length_map,hti]
      rfl
    refine zQe (zZh (x:=Dat.add (i : Int) 1) (by simp only [Dat.add]; have:=hs.1; omega)) ?_
    refine hk _ ⟨i+1,hlt, ?_⟩ (by simp only [Dat.add]; omega)
    rw [List.take_succ_eq_append_getElem hlt,List.map_append,List.map_append]
    rfl
  · have hi' : i = l.length := by omega
    subst hi'
    refine zQh (decide_eq_false (by simp only [Dat.ofN,Dat.len]; omega)) ?_
    rw [List.take_length]
    exact hfin
end Go.Proofs.Ytablhcjjfiepaaa
