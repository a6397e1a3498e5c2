package tests

import (
	"maps"
	"slices"
	"strconv"
	"testing"

	"loop.example/selvedge/impl"
)

var allOrders = []int{impl.OrdDeg, impl.OrdLex, impl.OrdOut}

// dice rolls the same numbers at every run, so that a test that fails fails again.
type dice uint64

func (d *dice) roll(n int) int {
	*d = *d*6364136223846793005 + 1442695040888963407
	return int(uint64(*d>>33) % uint64(n))
}

// mon rolls a monomial with no factor more often than most.
func (d *dice) mon(most int) impl.MonMon {
	return impl.MonMon{X: d.roll(most + 1), Y: d.roll(most + 1), D: d.roll(most + 1), E: d.roll(most + 1)}
}

// pol rolls an operator of up to so many terms, put together without the program.
func (d *dice) pol(terms int, most int) []impl.PolTerm {
	numbers := map[impl.MonMon]int{}
	for range d.roll(terms + 1) {
		numbers[d.mon(most)] = 1 + d.roll(impl.FldP-1)
	}
	return fromNumbers(numbers)
}

// form rolls an operator without slopes.
func (d *dice) form(terms int, most int) []impl.PolTerm {
	numbers := map[impl.MonMon]int{}
	for range d.roll(terms + 1) {
		numbers[impl.MonMon{X: d.roll(most + 1), Y: d.roll(most + 1)}] = 1 + d.roll(impl.FldP-1)
	}
	return fromNumbers(numbers)
}

// fromNumbers is the operator with these numbers taken by FldP, sorted without the program.
func fromNumbers(numbers map[impl.MonMon]int) []impl.PolTerm {
	var p []impl.PolTerm
	for m, c := range numbers {
		c = (c%impl.FldP + impl.FldP) % impl.FldP
		if c != 0 {
			p = append(p, impl.PolTerm{C: c, M: m})
		}
	}
	slices.SortFunc(p, func(a, b impl.PolTerm) int {
		return slices.Compare(orderKeys(impl.OrdDeg, b.M), orderKeys(impl.OrdDeg, a.M))
	})
	return p
}

// orderKeys are what an order asks a monomial for, one by one.
func orderKeys(order int, m impl.MonMon) []int {
	lex := []int{m.D, m.E, m.X, m.Y}
	switch order {
	case impl.OrdDeg:
		return append([]int{m.X + m.Y + m.D + m.E}, lex...)
	case impl.OrdOut:
		return append([]int{m.D + m.X}, lex...)
	}
	return lex
}

// plainMonText writes a monomial that is ok without the program.
func plainMonText(m impl.MonMon) string {
	text := ""
	for place, count := range []int{m.X, m.Y, m.D, m.E} {
		if count > 0 {
			text += "xyde"[place : place+1]
		}
		if count > 1 {
			text += strconv.Itoa(count)
		}
	}
	if text == "" {
		return "1"
	}
	return text
}

// op reads an operator that a test writes down; a text that is none ends the test.
func op(t *testing.T, text string) []impl.PolTerm {
	t.Helper()
	p, ok := impl.PolRead(text)
	if !ok {
		t.Fatalf("PolRead(%q) is false", text)
	}
	return p
}

// wantPol asks for an operator as an answer, one that is ok.
func wantPol(t *testing.T, got []impl.PolTerm, want []impl.PolTerm, name string) {
	t.Helper()
	if !slices.Equal(got, want) {
		t.Fatalf("%s is %v, not %v", name, got, want)
	}
	if !impl.PolOk(got) {
		t.Fatalf("%s is %v: not ok", name, got)
	}
}

// wantNothing asks for an answer without terms, beside a false.
func wantNothing(t *testing.T, got []impl.PolTerm, ok bool, name string) {
	t.Helper()
	if len(got) != 0 || ok {
		t.Fatalf("%s is %v and %v", name, got, ok)
	}
}

// mark fills spare room, so that a write behind an argument's end is seen.
var mark = impl.PolTerm{C: -77, M: impl.MonMon{X: -7, Y: -7, D: -7, E: -7}}

// roomy is a copy with marked spare room.
func roomy(p []impl.PolTerm) []impl.PolTerm {
	room := make([]impl.PolTerm, len(p)+len(p)/2+8)
	copy(room, p)
	for i := len(p); i < len(room); i++ {
		room[i] = mark
	}
	return room[:len(p)]
}

// wantUntouched asks whether an argument that was made by roomy is as it was, its spare room included.
func wantUntouched(t *testing.T, arg []impl.PolTerm, was []impl.PolTerm, name string) {
	t.Helper()
	if !slices.Equal(arg, was) {
		t.Fatalf("%s: an argument %v became %v", name, was, arg)
	}
	for _, term := range arg[len(arg):cap(arg)] {
		if term != mark {
			t.Fatalf("%s: something was written behind the end of an argument", name)
		}
	}
}

// scribble writes over an answer and its spare room; what is shared with an argument is seen by wantUntouched.
func scribble(p []impl.PolTerm) {
	p = p[:cap(p)]
	for i := range p {
		p[i] = impl.PolTerm{C: -99, M: impl.MonMon{X: -9}}
	}
}

// wantNewMemory asks that what a call answers of two operators shares nothing with them, nor with what it answers again, and that both stay as they are.
func wantNewMemory(t *testing.T, a []impl.PolTerm, b []impl.PolTerm, name string, call func(a []impl.PolTerm, b []impl.PolTerm) []impl.PolTerm) {
	t.Helper()
	aArg, bArg := roomy(a), roomy(b)
	first := call(aArg, bArg)
	kept := slices.Clone(first)
	second := call(aArg, bArg)
	scribble(second)
	wantUntouched(t, aArg, a, name)
	wantUntouched(t, bArg, b, name)
	if !slices.Equal(first, kept) {
		t.Fatalf("%s: two answers share memory", name)
	}
	scribble(aArg[:len(aArg):len(aArg)])
	scribble(bArg[:len(bArg):len(bArg)])
	if !slices.Equal(first, kept) {
		t.Fatalf("%s: an answer shares memory with an argument", name)
	}
}

// badPols are terms that are no operator, by name.
func badPols() map[string][]impl.PolTerm {
	x := impl.MonMon{X: 1}
	d := impl.MonMon{D: 1}
	return map[string][]impl.PolTerm{
		"out of order":       {{C: 1, M: x}, {C: 1, M: d}},
		"less first":         {{C: 1, M: impl.MonMon{}}, {C: 1, M: x}},
		"in lex, not in deg": {{C: 1, M: d}, {C: 1, M: impl.MonMon{X: 2}}},
		"twice the same":     {{C: 1, M: x}, {C: 2, M: x}},
		"twice, not beside":  {{C: 1, M: x}, {C: 2, M: impl.MonMon{}}, {C: 1, M: x}},
		"number 0":           {{C: 0, M: x}},
		"number FldP":        {{C: impl.FldP, M: x}},
		"number below 0":     {{C: -1, M: x}},
		"number 0 at last":   {{C: 1, M: d}, {C: 1, M: x}, {C: 0, M: impl.MonMon{}}},
		"X past MonMax":      {{C: 1, M: impl.MonMon{X: impl.MonMax + 1}}},
		"Y past MonMax":      {{C: 1, M: impl.MonMon{Y: impl.MonMax + 1}}},
		"D past MonMax":      {{C: 1, M: impl.MonMon{D: impl.MonMax + 1}}},
		"E past MonMax":      {{C: 1, M: impl.MonMon{E: impl.MonMax + 1}}},
		"E below 0":          {{C: 1, M: x}, {C: 1, M: impl.MonMon{E: -1}}},
		"too many":           manyTerms(impl.PolMax + 1),
	}
}

// allBadPols are terms that are no operator, with each wrong number and each wrong monomial, at the first and at the last place.
func allBadPols() [][]impl.PolTerm {
	bads := slices.Collect(maps.Values(badPols()))
	for _, m := range badMons() {
		bads = append(bads, []impl.PolTerm{{C: 1, M: m}}, []impl.PolTerm{{C: 1, M: impl.MonMon{D: 1}}, {C: 1, M: m}})
	}
	for _, c := range badNumbers {
		bads = append(bads, []impl.PolTerm{{C: c, M: impl.MonMon{D: 1}}}, []impl.PolTerm{{C: 1, M: impl.MonMon{D: 1}}, {C: c}})
	}
	return bads
}

// manyTerms is an operator of so many terms (of at most 4096: more than may be), each with number 1; the first 256 of the monomials that it counts through have no slopes.
func manyTerms(n int) []impl.PolTerm {
	numbers := map[impl.MonMon]int{}
	for i := range n {
		numbers[impl.MonMon{X: i % 16, Y: i / 16 % 16, D: i / 256}] = 1
	}
	return fromNumbers(numbers)
}
