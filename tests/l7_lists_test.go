package tests

import (
	"slices"
	"testing"

	"loop.example/selvedge/impl"
)

// wantNoneOfIt asks both functions with an order for their answers at what is not ok.
func wantNoneOfIt(t *testing.T, order int, p []impl.PolTerm, list [][]impl.PolTerm, name string) {
	t.Helper()
	taken, left, ok := impl.RedAll(order, p, list)
	wantNoDivision(t, taken, left, ok, "RedAll with "+name)
	if impl.RedFree(order, p, list) {
		t.Fatalf("RedFree with %s is true", name)
	}
}

func TestRedOfNoOrder(t *testing.T) {
	for _, order := range badOrders {
		for _, p := range append(ops(t, "0", "1", "x", "2xd+y+100"), manyTerms(impl.PolMax)) {
			for _, list := range [][][]impl.PolTerm{nil, {}, ops(t, "1"), ops(t, "e"), ops(t, "x", "d+1"), times(impl.LstMax, op(t, "y"))} {
				wantNoneOfIt(t, order, p, list, "no order")
			}
		}
	}
}

func TestRedOfNoOperator(t *testing.T) {
	for _, bad := range allBadPols() {
		for _, order := range allOrders {
			for _, list := range [][][]impl.PolTerm{nil, {}, ops(t, "1"), ops(t, "e"), ops(t, "x", "d+1"), {bad}} {
				wantNoneOfIt(t, order, bad, list, "what is no operator")
			}
		}
	}
}

// What is not ok is not ok at each place of a list, also if it would never be asked: for 0, or behind one that takes all.
func TestRedOfNoList(t *testing.T) {
	pols := ops(t, "0", "1", "e", "2xd+y+100")
	for _, bad := range append(allBadPols(), nil, []impl.PolTerm{}) {
		for place := range 3 {
			list := ops(t, "1", "x2", "d3")
			list[place] = bad
			for _, order := range allOrders {
				for _, p := range pols {
					wantNoneOfIt(t, order, p, list, "a list that is not ok")
				}
			}
		}
	}
	for _, order := range allOrders {
		for _, p := range pols {
			for n := impl.LstMax + 1; n < 3*impl.LstMax; n++ {
				wantNoneOfIt(t, order, p, times(n, op(t, "x")), "a list that is too long")
			}
			for n := range impl.LstMax + 1 {
				if want := wantDivision(t, order, p, times(n, op(t, "x"))); !want.ok() {
					t.Fatalf("RedAll by %d of a list is false", n)
				}
				if impl.RedFree(order, p, times(n, op(t, "x"))) != plainFree(order, p, times(min(n, 1), op(t, "x"))) {
					t.Fatalf("RedFree by %d of a list", n)
				}
			}
			// The last one of the longest list takes, too.
			list := append(times(impl.LstMax-1, op(t, "x15")), op(t, "1"))
			taken, left, ok := impl.RedAll(order, p, list)
			if !ok || len(left) > 0 || !slices.Equal(taken[impl.LstMax-1], p) || impl.RedFree(order, p, list) != (len(p) == 0) {
				t.Fatalf("RedAll of %s by 1 at the last place is %v", plainText(p), taken)
			}
		}
	}
}

func TestRedSumWrong(t *testing.T) {
	for _, bad := range allBadPols() {
		for n := 1; n <= 3; n++ {
			for place := range n {
				for _, other := range [][]impl.PolTerm{nil, op(t, "1"), op(t, "d+x"), bad} {
					quots, list := times(n, op(t, "x")), times(n, op(t, "d"))
					quots[place], list[place] = bad, other
					got, ok := impl.RedSum(quots, list)
					wantNothing(t, got, ok, "RedSum of what is not ok")
					got, ok = impl.RedSum(list, quots)
					wantNothing(t, got, ok, "RedSum with what is not ok")
				}
			}
		}
	}
}

// markList fills the spare room of a list of operators.
var markList = []impl.PolTerm{mark, mark, mark}

// roomyList is a copy of a list and of all in it, with marked spare room.
func roomyList(list [][]impl.PolTerm) [][]impl.PolTerm {
	room := make([][]impl.PolTerm, len(list)+5)
	for place := range room {
		room[place] = markList
	}
	for place, p := range list {
		room[place] = roomy(p)
	}
	return room[:len(list)]
}

// wantListUntouched asks whether an argument that was made by roomyList is as it was, its spare room included.
func wantListUntouched(t *testing.T, arg [][]impl.PolTerm, was [][]impl.PolTerm, name string) {
	t.Helper()
	for place, p := range arg {
		wantUntouched(t, p, was[place], name)
	}
	for _, spare := range arg[len(arg):cap(arg)] {
		if len(spare) != 3 || &spare[0] != &markList[0] {
			t.Fatalf("%s: something was written behind the end of a list", name)
		}
	}
}

// scribbleList writes over an answer, all in it, and its spare room.
func scribbleList(list [][]impl.PolTerm) {
	for _, p := range list {
		scribble(p)
	}
	list = list[:cap(list)]
	for place := range list {
		list[place] = []impl.PolTerm{{C: -98}}
	}
}

func cloneList(list [][]impl.PolTerm) [][]impl.PolTerm {
	var clone [][]impl.PolTerm
	for _, p := range list {
		clone = append(clone, slices.Clone(p))
	}
	return clone
}

// listPair is what a call is given: an operator, or a list, beside a list.
type listPair struct{ quots, list [][]impl.PolTerm }

// told is what a call answers: a list, an operator, or both.
type told struct {
	list [][]impl.PolTerm
	p    []impl.PolTerm
}

func (a told) clone() told {
	return told{cloneList(a.list), slices.Clone(a.p)}
}

func (a told) same(b told) bool {
	return slices.EqualFunc(a.list, b.list, slices.Equal) && slices.Equal(a.p, b.p)
}

// wantApart asks that no two lists of one answer share memory, spare room included.
func wantApart(t *testing.T, answer told, name string) {
	t.Helper()
	whole := append(slices.Clone(answer.list), answer.p)
	for place, p := range whole {
		others := slices.Delete(slices.Clone(whole), place, place+1)
		kept := cloneList(others)
		scribble(p)
		if !slices.EqualFunc(others, kept, slices.Equal) {
			t.Fatalf("%s: two lists of one answer share memory", name)
		}
	}
}

// wantNewLists asks that what a call answers shares nothing with what it is given, nor with what it answers again, nor within itself, and that what it is given stays as it is.
func wantNewLists(t *testing.T, given listPair, name string, call func(given listPair) told) {
	t.Helper()
	args := listPair{roomyList(given.quots), roomyList(given.list)}
	first := call(args)
	kept := first.clone()
	second := call(args)
	scribbleList(second.list)
	scribble(second.p)
	wantListUntouched(t, args.quots, given.quots, name)
	wantListUntouched(t, args.list, given.list, name)
	if !first.same(kept) {
		t.Fatalf("%s: two answers share memory", name)
	}
	scribbleList(args.quots)
	scribbleList(args.list)
	if !first.same(kept) {
		t.Fatalf("%s: an answer shares memory with an argument", name)
	}
	wantApart(t, first, name)
}

// manyDivisions are operators beside lists: nothing taken, all taken, one and the same twice, too much, and what is not ok.
func manyDivisions(t *testing.T) []listPair {
	full := manyTerms(impl.PolMax)
	pairs := []listPair{
		{ops(t, "0"), nil}, {ops(t, "x"), nil}, {ops(t, "0"), ops(t, "x", "y")}, {ops(t, "x"), ops(t, "y", "d")}, {ops(t, "xd"), ops(t, "d", "d", "d")},
		{ops(t, "x"), ops(t, "x")}, {ops(t, "x2"), ops(t, "x")}, {ops(t, "d2+2d+1"), ops(t, "y", "d+1", "d+1")}, {ops(t, "2xd+y+100"), ops(t, "1")}, {ops(t, "d2+de+x"), ops(t, "d2+x2", "x", "e")},
		{[][]impl.PolTerm{full}, [][]impl.PolTerm{full}}, {[][]impl.PolTerm{full}, nil}, {[][]impl.PolTerm{manyTerms(impl.RedFuel)}, ops(t, "e", "d")},
		{[][]impl.PolTerm{pile(impl.RedFuel)}, ops(t, "d+e", "e")}, {[][]impl.PolTerm{pile(impl.RedFuel + 1)}, ops(t, "d+e")},
		{ops(t, "x2y14"), ops(t, "x2+y2")}, {ops(t, "x"), times(impl.LstMax, op(t, "x"))}, {ops(t, "x"), times(impl.LstMax+1, op(t, "x"))},
		{ops(t, "x"), ops(t, "x", "0")}, {[][]impl.PolTerm{manyTerms(impl.PolMax + 1)}, ops(t, "x")},
	}
	d := dice(77)
	for range 60 {
		_, p, list := d.divided(3)
		pairs = append(pairs, listPair{[][]impl.PolTerm{p}, list})
	}
	return pairs
}

func TestRedAllNewMemory(t *testing.T) {
	for _, pair := range manyDivisions(t) {
		for _, order := range append([]int{0}, allOrders...) {
			wantNewLists(t, pair, "RedAll", func(given listPair) told {
				impl.LstOk(given.list)
				impl.RedFree(order, given.quots[0], given.list)
				taken, left, _ := impl.RedAll(order, given.quots[0], given.list)
				return told{taken, left}
			})
		}
	}
}

func TestRedSumNewMemory(t *testing.T) {
	one := op(t, "1")
	pairs := []listPair{
		{nil, nil}, {ops(t, "1"), ops(t, "x")}, {ops(t, "x"), ops(t, "1")}, {ops(t, "0"), ops(t, "x")}, {ops(t, "0", "1", "0"), ops(t, "x", "d2+x", "0")},
		{[][]impl.PolTerm{one}, [][]impl.PolTerm{manyTerms(impl.PolMax)}}, {ops(t, "1", "1"), [][]impl.PolTerm{manyTerms(impl.PolMax), one}}, {ops(t, "x"), ops(t, "x15")},
		{[][]impl.PolTerm{one, one}, [][]impl.PolTerm{manyTerms(impl.PolMax), op(t, "e")}}, {ops(t, "1"), nil}, {ops(t, "1", "2"), ops(t, "x")}, {[][]impl.PolTerm{manyTerms(impl.PolMax + 1)}, ops(t, "x")},
		{times(impl.LstMax, one), times(impl.LstMax, op(t, "d+x"))}, {times(impl.LstMax+1, one), times(impl.LstMax+1, op(t, "d+x"))},
	}
	d := dice(78)
	for range 100 {
		quots, list := d.summed(2)
		pairs = append(pairs, listPair{quots, list})
	}
	for _, pair := range pairs {
		wantNewLists(t, pair, "RedSum", func(given listPair) told {
			sum, _ := impl.RedSum(given.quots, given.list)
			return told{nil, sum}
		})
	}
}
