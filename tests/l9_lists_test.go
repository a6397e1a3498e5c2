package tests

import (
	"slices"
	"testing"
	"unsafe"

	"loop.example/selvedge/impl"
)

// wantNoBasis asks the functions with an order for their answers at a list that is not ok, or in no order.
func wantNoBasis(t *testing.T, order int, list [][]impl.PolTerm, name string) {
	t.Helper()
	for _, fuel := range []int{-1, 0, 1, impl.GrbMaxFuel, impl.GrbMaxFuel + 1} {
		wantNoBase(t, impl.GrbMake(order, list, fuel), "GrbMake with "+name)
	}
	if impl.GrbOk(order, list) {
		t.Fatalf("GrbOk with %s is true", name)
	}
	if stairs := impl.GrbStairs(order, list); len(stairs) != 0 {
		t.Fatalf("GrbStairs with %s is %v", name, stairs)
	}
}

func TestGrbOfNoOrder(t *testing.T) {
	for _, order := range badOrders {
		for _, list := range [][][]impl.PolTerm{nil, {}, ops(t, "1"), ops(t, "e"), ops(t, "d", "x"), ops(t, "d", "x", "100"), {manyTerms(impl.PolMax)}, times(impl.LstMax, op(t, "y"))} {
			wantNoBasis(t, order, list, "no order")
		}
	}
}

// What is not ok is not ok at each place of a list, also if it would never be looked at.
func TestGrbOfNoList(t *testing.T) {
	for _, bad := range append(allBadPols(), nil, []impl.PolTerm{}, manyTerms(3)[:0]) {
		for n := 1; n <= 5; n++ {
			for place := range n {
				list := times(n, op(t, "1"))
				list[place] = bad
				for _, order := range append([]int{0}, allOrders...) {
					wantNoBasis(t, order, list, "a list that is not ok")
				}
				wantNotProved(t, list)
			}
		}
	}
	for n := impl.LstMax + 1; n < 3*impl.LstMax; n++ {
		for _, order := range allOrders {
			wantNoBasis(t, order, times(n, op(t, "d")), "a list that is too long")
		}
	}
}

// wantNotProved asks that a list that is not ok is neither proved nor proves: not by itself, by 1, by nothing, nor nothing by it.
func wantNotProved(t *testing.T, list [][]impl.PolTerm) {
	t.Helper()
	one := op(t, "1")
	byItself := impl.GrbBase{List: list, Done: true}
	byOne := impl.GrbBase{List: list, Done: true}
	oneByIt := impl.GrbBase{List: [][]impl.PolTerm{one}, Proof: [][][]impl.PolTerm{make([][]impl.PolTerm, len(list))}, Done: true}
	for place, p := range list {
		row := make([][]impl.PolTerm, len(list))
		row[place] = one
		byItself.Proof = append(byItself.Proof, row)
		byOne.Proof = append(byOne.Proof, [][]impl.PolTerm{p})
		if slices.Equal(p, one) {
			oneByIt.Proof[0] = row
		}
	}
	if impl.GrbProves(byItself, list) || impl.GrbProves(byOne, ops(t, "1")) || impl.GrbProves(oneByIt, list) || impl.GrbProves(impl.GrbBase{Done: true}, list) {
		t.Fatalf("GrbProves with a list that is not ok is true: %v", list)
	}
}

// A proof that is not ok is none, though what is not ok there is multiplied by anything.
func TestGrbProvesByNoOperator(t *testing.T) {
	for _, bad := range allBadPols() {
		for place := range 3 {
			for _, zero := range []bool{true, false} {
				base := impl.GrbMake(impl.OrdDeg, ops(t, "d", "x", "y"), impl.GrbMaxFuel)
				row := base.Proof[place]
				for i := range row {
					if zero {
						row[i] = nil
					}
				}
				row[place] = bad
				if impl.GrbProves(base, ops(t, "d", "x", "y")) {
					t.Fatalf("GrbProves with the proof %v is true", row)
				}
			}
		}
	}
}

// span is where a list lies in memory, its spare room included.
type span struct{ from, to uintptr }

func spanOf[T any](list []T) span {
	var item T
	from := uintptr(unsafe.Pointer(unsafe.SliceData(list)))
	return span{from, from + uintptr(cap(list))*unsafe.Sizeof(item)}
}

func (a span) meets(b span) bool {
	return a.from < b.to && b.from < a.to
}

// listSpans are the spans of a list of operators, and of all in it.
func listSpans(list [][]impl.PolTerm) []span {
	spans := []span{spanOf(list)}
	for _, p := range list {
		spans = append(spans, spanOf(p))
	}
	return spans
}

func baseSpans(b impl.GrbBase) []span {
	spans := append(listSpans(b.List), spanOf(b.Proof))
	for _, proof := range b.Proof {
		spans = append(spans, listSpans(proof)...)
	}
	return spans
}

// wantOwnMemory asks that no two of an answer's lists share memory, nor one with others.
func wantOwnMemory(t *testing.T, answer []span, others []span, name string) {
	t.Helper()
	for place, own := range answer {
		if slices.ContainsFunc(answer[:place], own.meets) {
			t.Fatalf("%s: two lists of one answer share memory", name)
		}
		if slices.ContainsFunc(others, own.meets) {
			t.Fatalf("%s: an answer shares memory with an argument, or with another answer", name)
		}
	}
}

func TestGrbMakeNewMemory(t *testing.T) {
	try := func(order int, given [][]impl.PolTerm) {
		for _, fuel := range []int{-1, 0, 1, 2, impl.GrbMaxFuel} {
			arg := roomyList(given)
			first, second := impl.GrbMake(order, arg, fuel), impl.GrbMake(order, arg, fuel)
			wantListUntouched(t, arg, given, "GrbMake")
			wantOwnMemory(t, baseSpans(first), append(listSpans(arg), baseSpans(second)...), "GrbMake")
			kept := cloneBase(first)
			scribbleList(second.List)
			for _, proof := range second.Proof {
				scribbleList(proof)
			}
			wantListUntouched(t, arg, given, "GrbMake")
			if !sameBase(first, kept) {
				t.Fatal("GrbMake: two answers share memory")
			}
		}
	}
	for order, lists := range someGiven(t) {
		for _, given := range lists {
			try(order, given)
		}
	}
	manyGiven(90, 100, try)
	try(impl.OrdLex, [][]impl.PolTerm{op(t, "d"), loose(t, "d2e+de15+100y"), op(t, "e")})
	try(impl.OrdDeg, [][]impl.PolTerm{manyTerms(impl.PolMax), manyTerms(impl.PolMax)})
	try(impl.OrdDeg, ops(t, "d", "0"))
	try(0, ops(t, "d", "x"))
	// One and the same memory may be given twice.
	d := roomy(op(t, "d+1"))
	base := impl.GrbMake(impl.OrdDeg, [][]impl.PolTerm{d, d, d[:1]}, impl.GrbMaxFuel)
	wantOwnMemory(t, baseSpans(base), []span{spanOf(d)}, "GrbMake of one and the same")
}

// markProof fills the spare room of a list of proofs.
var markProof = [][]impl.PolTerm{markList}

// roomyBase is a copy of a basis and of all in it, with marked spare room.
func roomyBase(b impl.GrbBase) impl.GrbBase {
	room := make([][][]impl.PolTerm, len(b.Proof)+4)
	for place := range room {
		room[place] = markProof
	}
	for place, proof := range b.Proof {
		room[place] = roomyList(proof)
	}
	return impl.GrbBase{List: roomyList(b.List), Proof: room[:len(b.Proof)], Done: b.Done}
}

func wantBaseUntouched(t *testing.T, arg impl.GrbBase, was impl.GrbBase, name string) {
	t.Helper()
	wantListUntouched(t, arg.List, was.List, name)
	for place, proof := range arg.Proof {
		wantListUntouched(t, proof, was.Proof[place], name)
	}
	for _, spare := range arg.Proof[len(arg.Proof):cap(arg.Proof)] {
		if len(spare) != 1 || &spare[0] != &markProof[0] {
			t.Fatalf("%s: something was written behind the end of a list of proofs", name)
		}
	}
}

// What only says something writes nothing into what it is given.
func TestGrbLeavesItsArguments(t *testing.T) {
	manyGiven(91, 100, func(order int, given [][]impl.PolTerm) {
		base := impl.GrbMake(order, given, impl.GrbMaxFuel)
		for _, list := range [][][]impl.PolTerm{given, base.List, append(slices.Clone(given), nil)} {
			arg, baseArg := roomyList(list), roomyBase(base)
			impl.GrbOk(order, arg)
			stairs := impl.GrbStairs(order, arg)
			impl.GrbProves(baseArg, arg)
			wantListUntouched(t, arg, list, "GrbOk, GrbStairs or GrbProves")
			wantBaseUntouched(t, baseArg, base, "GrbProves")
			wantOwnMemory(t, []span{spanOf(stairs)}, append(listSpans(arg), spanOf(impl.GrbStairs(order, arg))), "GrbStairs")
		}
	})
}
