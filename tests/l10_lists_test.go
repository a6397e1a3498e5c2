package tests

import (
	"slices"
	"testing"

	"loop.example/selvedge/impl"
)

// wantNotIn asks GrbIn for its answer at what is not ok.
func wantNotIn(t *testing.T, order int, list [][]impl.PolTerm, p []impl.PolTerm, name string) {
	t.Helper()
	if in, ok := impl.GrbIn(order, list, p); in || ok {
		t.Fatalf("GrbIn with %s is %v and %v", name, in, ok)
	}
}

// wantNoIdeal asks the functions with an order for their answers at a list that is not ok, or in no order.
func wantNoIdeal(t *testing.T, order int, list [][]impl.PolTerm, name string) {
	t.Helper()
	for _, p := range ops(t, "0", "1", "2xd+y+100") {
		wantNotIn(t, order, list, p, name)
	}
	least, ok := impl.GrbLeast(order, list)
	wantLists(t, least, ok, nil, false, "GrbLeast with "+name)
	least, ok = impl.IdlOf(order, list)
	wantLists(t, least, ok, nil, false, "IdlOf with "+name)
	for _, other := range [][][]impl.PolTerm{ops(t, "1"), ops(t, "d", "x"), list} {
		for _, pair := range []listPair{{list, other}, {other, list}} {
			if same, ok := impl.IdlSame(order, pair.quots, pair.list); same || ok {
				t.Fatalf("IdlSame with %s is %v and %v", name, same, ok)
			}
		}
	}
	for _, side := range []int{-1, 0, 1, 2, 7} {
		if count, flat := impl.IdlFlat(order, list, side); count != 0 || flat {
			t.Fatalf("IdlFlat with %s is %d and %v", name, count, flat)
		}
	}
}

func TestIdlOfNoOrder(t *testing.T) {
	for _, order := range badOrders {
		for _, list := range [][][]impl.PolTerm{nil, {}, ops(t, "1"), ops(t, "e"), ops(t, "d", "x"), ops(t, "d", "x", "100"), {manyTerms(impl.PolMax)}, times(impl.LstMax, op(t, "y"))} {
			wantNoIdeal(t, order, list, "no order")
			for _, side := range []int{3, 6} {
				if count, flat := impl.IdlFlat(order, list, side); count != 0 || flat {
					t.Fatalf("IdlFlat(%d) is %d and %v", order, count, flat)
				}
			}
		}
	}
}

// What is not ok is not ok at each place of a list, also if it would never be asked: beside a number, which takes all.
func TestIdlOfNoList(t *testing.T) {
	for _, bad := range append(allBadPols(), nil, []impl.PolTerm{}, manyTerms(3)[:0]) {
		for n := 1; n <= 4; n++ {
			for place := range n {
				for _, beside := range ops(t, "1", "y") {
					list := times(n, beside)
					list[place] = bad
					for _, order := range allOrders {
						wantNoIdeal(t, order, list, "a list that is not ok")
					}
					wantLists(t, impl.IdlRest(list), true, nil, true, "IdlRest of a list that is not ok")
				}
			}
		}
	}
	for n := impl.LstMax + 1; n < 3*impl.LstMax; n++ {
		for _, order := range allOrders {
			wantNoIdeal(t, order, times(n, op(t, "d")), "a list that is too long")
			wantNoIdeal(t, order, times(n, op(t, "1")), "a list that is too long")
		}
		wantLists(t, impl.IdlRest(times(n, op(t, "y"))), true, nil, true, "IdlRest of a list that is too long")
	}
}

func TestGrbInOfNoOperator(t *testing.T) {
	for _, bad := range allBadPols() {
		for _, order := range append([]int{0}, allOrders...) {
			for _, list := range [][][]impl.PolTerm{nil, {}, ops(t, "1"), ops(t, "e"), ops(t, "x", "d+1"), {bad}} {
				wantNotIn(t, order, list, bad, "what is no operator")
			}
		}
	}
}

// manyMade are lists to be asked in each order, two of which are beside each other: needed or not, too much, and not ok.
func manyMade(t *testing.T) []listPair {
	full := manyTerms(impl.PolMax)
	pairs := []listPair{
		{nil, nil}, {ops(t, "1"), nil}, {ops(t, "y"), ops(t, "y")}, {ops(t, "2d+1"), ops(t, "x", "y2", "x2")}, {ops(t, "d", "x"), ops(t, "1")}, {ops(t, "d", "e", "d"), ops(t, "x", "y", "x")}, {ops(t, "d2", "xd+100"), ops(t, "2xd+99", "d2")},
		{ops(t, "y+1", "x+y", "e+x"), ops(t, "e2+1", "y", "ye+1")}, {[][]impl.PolTerm{full}, [][]impl.PolTerm{full, full}}, {[][]impl.PolTerm{manyTerms(impl.RedFuel)}, [][]impl.PolTerm{manyTerms(impl.RedFuel), op(t, "e")}},
		{looseOps(t, "x+y15", "d+xy"), looseOps(t, "d+x15", "x+1")}, {looseOps(t, "y15", "x+y15", "d+xy"), ops(t, "x2y2", "yd2e2")},
		{times(impl.LstMax, op(t, "y")), times(impl.LstMax+1, op(t, "y"))}, {ops(t, "x", "0"), ops(t, "0", "y")}, {[][]impl.PolTerm{manyTerms(impl.PolMax + 1)}, ops(t, "y")},
	}
	manyGiven(110, 40, func(order int, given [][]impl.PolTerm) {
		pairs = append(pairs, listPair{given, impl.GrbMake(order, given, impl.GrbMaxFuel).List})
	})
	return pairs
}

// idlCalls are the functions that answer a list, by name.
func idlCalls(order int) map[string]func(list [][]impl.PolTerm) [][]impl.PolTerm {
	return map[string]func(list [][]impl.PolTerm) [][]impl.PolTerm{
		"GrbLeast": func(list [][]impl.PolTerm) [][]impl.PolTerm { least, _ := impl.GrbLeast(order, list); return least },
		"IdlOf":    func(list [][]impl.PolTerm) [][]impl.PolTerm { least, _ := impl.IdlOf(order, list); return least },
		"IdlRest":  impl.IdlRest,
	}
}

func TestIdlNewMemory(t *testing.T) {
	for _, pair := range manyMade(t) {
		for _, order := range append([]int{0}, allOrders...) {
			for name, call := range idlCalls(order) {
				for _, list := range [][][]impl.PolTerm{pair.quots, pair.list} {
					wantNewLists(t, listPair{nil, list}, name, func(given listPair) told { return told{list: call(given.list)} })
					arg := roomyList(list)
					wantOwnMemory(t, listSpans(call(arg)), append(listSpans(arg), listSpans(call(arg))...), name)
				}
			}
			// What only says something writes nothing into what it is given.
			args := listPair{roomyList(pair.quots), roomyList(pair.list)}
			impl.IdlSame(order, args.quots, args.list)
			for _, p := range args.quots {
				impl.GrbIn(order, args.list, p)
			}
			impl.IdlFlat(order, args.list, 2)
			wantListUntouched(t, args.quots, pair.quots, "IdlSame or GrbIn")
			wantListUntouched(t, args.list, pair.list, "IdlSame, GrbIn or IdlFlat")
		}
	}
}

// One and the same memory may be given twice, or overlap; an answer has each in memory of its own.
func TestIdlOfOneAndTheSame(t *testing.T) {
	p := roomy(op(t, "y2+y+1"))
	was := slices.Clone(p)
	list := [][]impl.PolTerm{p, p, p[1:], p[2:], p[:2]}
	for _, order := range allOrders {
		for name, call := range idlCalls(order) {
			for _, arg := range [][][]impl.PolTerm{list, list[:3], list[:2], list[1:]} {
				answer := call(arg)
				wantOwnMemory(t, listSpans(answer), []span{spanOf(p), spanOf(arg)}, name)
				scribbleList(answer)
				wantUntouched(t, p, was, name)
			}
		}
		if same, ok := impl.IdlSame(order, list[:3], list[:3]); !same || !ok {
			t.Fatal("IdlSame of one and the same list is false")
		}
	}
	wantInt(t, len(impl.IdlRest(list)), len(list), "how many stay")
}
