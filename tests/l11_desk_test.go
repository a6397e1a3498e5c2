package tests

import (
	"maps"
	"math"
	"regexp"
	"slices"
	"strconv"
	"strings"
	"testing"

	"loop.example/selvedge/impl"
)

// lineKind is how lines of a kind are written: the first word, and how many slots behind it.
type lineKind struct {
	kind  int
	word  string
	slots int
}

var lineKinds = []lineKind{
	{impl.LinSet, "set", 1}, {impl.LinAdd, "add", 3}, {impl.LinMul, "mul", 3}, {impl.LinApart, "apart", 3},
	{impl.LinDo, "do", 3}, {impl.LinRound, "round", 2}, {impl.LinBack, "back", 2}, {impl.LinShow, "show", 1},
}

// badKinds are none of the eight.
var badKinds = []int{0, -1, -2, -8, 9, 10, 16, 100, 1 << 32, 1<<32 + 1, math.MinInt, math.MinInt + 1, math.MaxInt - 1, math.MaxInt}

// badPlaces are no slots.
var badPlaces = []int{-1, -2, -6, math.MinInt32, math.MinInt, impl.DskSlots, impl.DskSlots + 1, 32, 65, 100, 256, 1 << 32, math.MaxInt - 1, math.MaxInt}

func TestDskTable(t *testing.T) {
	wantInt(t, impl.DskMaxLines, 60, "DskMaxLines")
	wantInt(t, impl.DskSlots, 6, "DskSlots")
	for place, k := range lineKinds {
		wantInt(t, k.kind, place+1, "the kind of "+k.word)
	}
}

// plainLineText writes a line whose operator is ok; empty, if it is no line.
func plainLineText(l impl.DskLine) string {
	at := slices.IndexFunc(lineKinds, func(k lineKind) bool { return k.kind == l.Kind })
	if at < 0 || (l.Kind != impl.LinSet && len(l.P) > 0) {
		return ""
	}
	text := lineKinds[at].word
	for place, slot := range []int{l.To, l.A, l.B} {
		switch {
		case place < lineKinds[at].slots && slot >= 0 && slot < 6:
			text += " " + string(rune('A'+slot))
		case place < lineKinds[at].slots || slot != 0:
			return ""
		}
	}
	if l.Kind == impl.LinSet {
		text += " " + plainText(l.P)
	}
	if len(text) > 400 {
		return ""
	}
	return text
}

func sameLine(a impl.DskLine, b impl.DskLine) bool {
	return a.Kind == b.Kind && a.To == b.To && a.A == b.A && a.B == b.B && slices.Equal(a.P, b.P)
}

// wantNoLine asks for nothing and false.
func wantNoLine(t *testing.T, l impl.DskLine, ok bool, name string) {
	t.Helper()
	if ok || !sameLine(l, impl.DskLine{}) {
		t.Fatalf("%s is %v and %v", name, l, ok)
	}
}

// P80, of a line whose operator is ok: it says whether it has a text.
func wantLine(t *testing.T, l impl.DskLine) bool {
	t.Helper()
	want := plainLineText(l)
	text := impl.DskText(l)
	if text != want {
		t.Fatalf("DskText of %v is %q, not %q", l, text, want)
	}
	got, ok := impl.DskRead(text)
	if text == "" {
		wantNoLine(t, got, ok, "DskRead of the empty text")
		return false
	}
	if !ok || !sameLine(got, l) {
		t.Fatalf("DskRead of %q is %v and %v, not %v", text, got, ok, l)
	}
	return true
}

// linesWithout are all lines without an operator.
func linesWithout() []impl.DskLine {
	var lines []impl.DskLine
	for _, k := range lineKinds[1:] {
		for n := range 6 * 6 * 6 {
			l := impl.DskLine{Kind: k.kind, To: n % 6, A: n / 6 % 6, B: n / 36}
			if (k.slots > 1 || l.A == 0) && (k.slots > 2 || l.B == 0) {
				lines = append(lines, l)
			}
		}
	}
	return lines
}

// P80
func TestDskTextAndRead(t *testing.T) {
	lines := linesWithout()
	wantInt(t, len(lines), 4*6*6*6+2*6*6+6, "how many lines there are without an operator")
	for _, l := range lines {
		if !wantLine(t, l) {
			t.Fatalf("DskText of %v is empty", l)
		}
		// The empty list is the nil one.
		l.P = []impl.PolTerm{}
		wantLine(t, l)
		l.P = manyTerms(3)[:0]
		wantLine(t, l)
	}
	written := 0
	for _, p := range somePols() {
		for to := range 6 {
			if wantLine(t, impl.DskLine{Kind: impl.LinSet, To: to, P: p}) {
				written++
			}
		}
	}
	if written < 400 {
		t.Fatalf("only %d lines have a text", written)
	}
}

func TestDskTextByHand(t *testing.T) {
	one, x, both := op(t, "1"), op(t, "x"), op(t, "2xd+y+100")
	for text, l := range map[string]impl.DskLine{
		"set A 0":          {Kind: impl.LinSet},
		"set F 0":          {Kind: impl.LinSet, To: 5, P: []impl.PolTerm{}},
		"set B 1":          {Kind: impl.LinSet, To: 1, P: one},
		"set C x":          {Kind: impl.LinSet, To: 2, P: x},
		"set D 2xd+y+100":  {Kind: impl.LinSet, To: 3, P: both},
		"set E xd+ye":      {Kind: impl.LinSet, To: 4, P: op(t, "xd+ye")},
		"set A x3y":        {Kind: impl.LinSet, P: op(t, "x3y")},
		"set A 100x15y2d3": {Kind: impl.LinSet, P: op(t, "100x15y2d3")},
		"add A A A":        {Kind: impl.LinAdd},
		"add F A E":        {Kind: impl.LinAdd, To: 5, A: 0, B: 4},
		"mul A B C":        {Kind: impl.LinMul, To: 0, A: 1, B: 2},
		"apart D E F":      {Kind: impl.LinApart, To: 3, A: 4, B: 5},
		"do F F F":         {Kind: impl.LinDo, To: 5, A: 5, B: 5},
		"round B A":        {Kind: impl.LinRound, To: 1},
		"back C F":         {Kind: impl.LinBack, To: 2, A: 5},
		"show A":           {Kind: impl.LinShow},
		"show F":           {Kind: impl.LinShow, To: 5},
	} {
		if got := impl.DskText(l); got != text {
			t.Fatalf("DskText of %v is %q, not %q", l, got, text)
		}
		if !wantLine(t, l) {
			t.Fatalf("%q is no line", text)
		}
	}
}

// Each of the three slots, below and past the ends, in each kind, with an operator and without one.
func TestDskTextOfAnyLine(t *testing.T) {
	lines, others := 0, 0
	pols := [][]impl.PolTerm{nil, {}, op(t, "x"), op(t, "100")}
	for kind := -1; kind <= 10; kind++ {
		for n := range 9 * 9 * 9 {
			for _, p := range pols {
				if wantLine(t, impl.DskLine{Kind: kind, To: n%9 - 1, A: n/9%9 - 1, B: n/81 - 1, P: p}) {
					lines++
				} else {
					others++
				}
			}
		}
	}
	wantInt(t, lines, 2*(4*216+2*36+6)+4*6, "how many have a text")
	wantInt(t, others, 12*729*4-lines, "how many have none")
}

func TestDskTextOfNoKindAndNoSlot(t *testing.T) {
	for _, kind := range badKinds {
		for _, p := range [][]impl.PolTerm{nil, op(t, "1"), op(t, "x")} {
			for slot := range 6 {
				if wantLine(t, impl.DskLine{Kind: kind, To: slot, P: p}) || wantLine(t, impl.DskLine{Kind: kind, To: slot, A: slot, B: slot, P: p}) {
					t.Fatalf("kind %d has a text", kind)
				}
			}
		}
	}
	for _, k := range lineKinds {
		for _, slot := range badPlaces {
			for _, l := range []impl.DskLine{{To: slot}, {A: slot}, {B: slot}, {To: slot, A: slot, B: slot}, {To: 1, A: slot}, {To: 1, B: slot}, {To: slot, P: op(t, "x")}} {
				l.Kind = k.kind
				if wantLine(t, l) {
					t.Fatalf("%v has a text", l)
				}
			}
		}
	}
}

// What a line's kind does not have is not passed over, also if it were a slot, or an operator.
func TestDskTextOfWhatALineDoesNotHave(t *testing.T) {
	for slot := 1; slot < 6; slot++ {
		for _, l := range []impl.DskLine{
			{Kind: impl.LinSet, A: slot}, {Kind: impl.LinSet, B: slot}, {Kind: impl.LinSet, A: slot, P: op(t, "x")}, {Kind: impl.LinSet, B: slot, P: op(t, "x")},
			{Kind: impl.LinRound, A: 1, B: slot}, {Kind: impl.LinBack, A: 1, B: slot}, {Kind: impl.LinShow, A: slot}, {Kind: impl.LinShow, B: slot},
		} {
			if impl.DskText(l) != "" || wantLine(t, l) {
				t.Fatalf("%v has a text", l)
			}
		}
	}
	for _, k := range lineKinds[1:] {
		for _, p := range ops(t, "1", "x", "2xd+y+100") {
			if l := (impl.DskLine{Kind: k.kind, To: 1, P: p}); impl.DskText(l) != "" || wantLine(t, l) {
				t.Fatalf("%v has a text", l)
			}
		}
	}
}

func TestDskTextOfNoOperator(t *testing.T) {
	for _, bad := range allBadPols() {
		for kind := -1; kind <= 10; kind++ {
			for to := range 6 {
				for _, l := range []impl.DskLine{{Kind: kind, To: to, P: bad}, {Kind: kind, To: to, A: to, P: bad}, {Kind: kind, To: to, A: to, B: to, P: bad}} {
					if text := impl.DskText(l); text != "" {
						t.Fatalf("DskText of %v is %q", l, text)
					}
				}
			}
		}
	}
}

func TestDskTextAtTheEdge(t *testing.T) {
	for bytes := 389; bytes <= 405; bytes++ {
		p := longText(bytes)
		for to := range 6 {
			l := impl.DskLine{Kind: impl.LinSet, To: to, P: p}
			if got := wantLine(t, l); got != (bytes+len("set A ") <= 400) {
				t.Fatalf("a line with an operator of %d bytes is %v", bytes, got)
			}
			// The operator alone may be short enough to be read, and its line is not.
			text := "set " + string(rune('A'+to)) + " " + plainText(p)
			got, ok := impl.DskRead(text)
			if bytes > 394 {
				wantNoLine(t, got, ok, "DskRead of a text of "+strconv.Itoa(len(text)))
			} else if !ok || !sameLine(got, l) {
				t.Fatalf("DskRead of a text of %d bytes is %v and %v", len(text), got, ok)
			}
		}
	}
	for _, terms := range []int{200, impl.PolMax, impl.PolMax + 1} {
		if text := impl.DskText(impl.DskLine{Kind: impl.LinSet, P: manyTerms(terms)}); text != "" {
			t.Fatalf("DskText with %d terms is %q", terms, text)
		}
	}
}

// lineForm is how lines are written, but for which texts are operators.
var lineForm = regexp.MustCompile(`\A(?:(add|mul|apart|do) ([A-F]) ([A-F]) ([A-F])|(round|back) ([A-F]) ([A-F])|(show) ([A-F])|(set) ([A-F]) ([0-9xyde+]+))\z`)

// plainLine reads a line by its form.
func plainLine(text string) (impl.DskLine, bool) {
	if len(text) > 400 || !lineForm.MatchString(text) {
		return impl.DskLine{}, false
	}
	words := strings.Split(text, " ")
	at := slices.IndexFunc(lineKinds, func(k lineKind) bool { return k.word == words[0] })
	l := impl.DskLine{Kind: at + 1}
	for place, to := range []*int{&l.To, &l.A, &l.B}[:lineKinds[at].slots] {
		*to = int(words[1+place][0] - 'A')
	}
	ok := true
	if words[0] == "set" {
		l.P, ok = impl.PolRead(words[2])
	}
	if !ok {
		return impl.DskLine{}, false
	}
	return l, true
}

// wantRead asks DskRead for what a text is by its form, and says whether it is a line.
func wantRead(t *testing.T, text string) bool {
	t.Helper()
	want, wantOk := plainLine(text)
	got, ok := impl.DskRead(text)
	if ok != wantOk || !sameLine(got, want) {
		t.Fatalf("DskRead of %q is %v and %v, not %v and %v", text, got, ok, want, wantOk)
	}
	if ok && impl.DskText(got) != text {
		t.Fatalf("DskText of what DskRead reads of %q is %q", text, impl.DskText(got))
	}
	return ok
}

// P80: one byte more, one fewer, and another one, at each place of many lines.
func TestDskReadOfOneByteElse(t *testing.T) {
	texts := []string{
		"set A 0", "set F 1", "set B x", "set C 2xd+y+100", "set D x3y", "add F A E", "add A A A", "mul C A B", "apart C A B",
		"do D E F", "do A B C", "round D B", "back E F", "show A", "show F",
	}
	for _, text := range texts {
		if !wantRead(t, text) {
			t.Fatalf("%q is no line", text)
		}
		read := 0
		for place := range len(text) + 1 {
			for b := range 256 {
				if wantRead(t, text[:place]+string([]byte{byte(b)})+text[place:]) && text[:3] != "set" {
					t.Fatalf("%q with a byte more is a line", text)
				}
				if place < len(text) && wantRead(t, text[:place]+string([]byte{byte(b)})+text[place+1:]) {
					read++
				}
			}
			if place < len(text) {
				wantRead(t, text[:place]+text[place+1:])
			}
		}
		if read < len(text) {
			t.Fatalf("%q with another byte is read %d times", text, read)
		}
	}
}

// Words in any order, with none, one and more spaces between them.
func TestDskReadOfAnyWords(t *testing.T) {
	words := []string{"set", "add", "do", "round", "show", "A", "F", "G", "0", "x", "", "AB"}
	read := 0
	var extend func(text string, left int)
	extend = func(text string, left int) {
		if wantRead(t, text) {
			read++
		}
		if left == 0 {
			return
		}
		for _, word := range words {
			extend(text+" "+word, left-1)
		}
	}
	for _, word := range words {
		extend(word, 4)
	}
	wantInt(t, read, 2*2+2*8+4+2, "how many are lines")
}

func TestDskReadWrong(t *testing.T) {
	long := plainText(longText(395))
	for _, text := range []string{
		"", " ", "  ", "\n", "\x00", "\xff", "0", "x", "A", "1", "long", "line 1", "too much 1", "A B C",
		// A word alone, and a word that is none, or is in other letters.
		"set", "add", "mul", "apart", "do", "round", "back", "show", "set ", "show ", "add  ", "mull A B C", "mu A B C", "sub A B C", "swap A B", "turn A B", "shift A B", "se A x", "sett A x", "aparts A B C", "part A B C", "ound A B", "showA", "setA x", "addA B C",
		"SET A x", "Set A x", "seT A x", "ADD A B C", "Show A", "SHOW A", "Do A B C", "dO A B C", "ſet A x", "ѕet A x", "ѕhow A", "1 A x", "8 A", "set\x00 A x",
		// Spaces.
		" show A", "show A ", "show  A", "show\tA", "show\nA", "show A\n", "\tshow A", "show\u00a0A", "show A\r", "show A\x00", "add  A B C", "add A  B C", "add A B  C", "add A B C ", " add A B C", "add AB C", "add A BC", "addA B C", "set  A x", "set A  x", "set A x ", " set A x", "set Ax", "set A x\n", "set A x\x00", "round A  B", "round AB", "round A B ", "\ufeffshow A",
		// Slots that are none.
		"show a", "show f", "show G", "show Z", "show @", "show 0", "show 1", "show AA", "show AB", "show ABCDEF", "show -1", "show É", "show А", "show \xc1", "show \x00", "show \x01", "show *", "set G x", "set a x", "set AB x", "set 0 x", "set x x", "set x A", "round G A", "round A G", "back a A", "back A a", "add G A A", "add A G A", "add A A G", "mul A A a", "do A 1 2", "apart A AB C",
		// Slots too few, and too many.
		"add A", "add A B", "mul A B", "apart A B", "do A B", "do A", "round A", "back A", "add A B C D", "mul A B C A", "apart A B C A", "do A B C F", "round A B C", "back A B C", "show A B", "show A A", "show A 0", "show A x",
		"set A B", "set A B x", "set A x B", "set A x x", "set x", "set 0", "set A", "set A ",
		"add A B x", "add A x B", "mul A 0 B", "mul A B 1", "round A x", "back A 0", "show x", "do A B x3y", "add A B C x", "show A 0",
		// An operator whose text is not its own.
		"set A 00", "set A 01", "set A 1x", "set A x1", "set A x+0", "set A 0+x", "set A 0x", "set A +x", "set A x+", "set A x+d", "set A y+2xd", "set A x+x", "set A dx", "set A xx", "set A x16", "set A 101", "set A 101x", "set A -1", "set A x-1", "set A X", "set A x + d", "set A d +x", "set A 2 x", "set A 2*x", "set A x²", "set A x\xff", "set A \xff", "set A \x00", "set A 99999999999999999999x", "set A 1e", "set A nil", "set A []",
		// Too long.
		"set A " + long, "set A " + long + " ", "set A " + plainText(longText(400)), "set A " + plainText(manyTerms(impl.PolMax)), strings.Repeat("set A x ", 50), strings.Repeat(" ", 400), strings.Repeat("A", 400), strings.Repeat("show A", 1<<14), "show" + strings.Repeat(" A", 1<<16), "show " + strings.Repeat("A", 1<<16), strings.Repeat(" ", 1<<16), "show A" + strings.Repeat(" ", 394), "show A" + strings.Repeat(" ", 395), "set A " + strings.Repeat("0", 394), "set A " + strings.Repeat("1", 395),
	} {
		l, ok := impl.DskRead(text)
		wantNoLine(t, l, ok, "DskRead of "+strconv.Quote(text[:min(len(text), 60)]))
		wantRead(t, text)
	}
}

// P80, of texts with operators that are changed a little.
func TestDskReadOfOperators(t *testing.T) {
	d := dice(80)
	read, other := 0, 0
	for range 20000 {
		text := []byte("set " + string(rune('A'+d.roll(6))) + " " + plainText(d.pol(4, 3)))
		place := d.roll(len(text))
		switch d.roll(4) {
		case 0:
			text[place] = "xyde0123456789+ ABs"[d.roll(19)]
		case 1:
			text = slices.Delete(text, place, place+1)
		case 2:
			text = slices.Insert(text, place, "xyde0123456789+ ABs"[d.roll(19)])
		}
		if wantRead(t, string(text)) {
			read++
		} else {
			other++
		}
	}
	if read < 5000 || other < 5000 {
		t.Fatalf("%d are lines, %d are not", read, other)
	}
}

func TestDskReadNewMemory(t *testing.T) {
	for _, text := range []string{"set A 0", "set B 1", "set C 2xd+y+100", "set D " + plainText(longText(394)), "add A B C", "show A"} {
		first, _ := impl.DskRead(text)
		second, _ := impl.DskRead(text)
		kept := slices.Clone(first.P)
		wantOwnMemory(t, []span{spanOf(first.P)}, []span{spanOf(second.P)}, "DskRead of "+text)
		scribble(second.P)
		if !slices.Equal(first.P, kept) {
			t.Fatalf("two answers of DskRead(%q) share memory", text)
		}
	}
}

func TestDskTextLeavesItsArgument(t *testing.T) {
	for _, p := range slices.Concat(somePols(), slices.Collect(maps.Values(badPols())), [][]impl.PolTerm{longText(394), longText(395)}) {
		for kind := range 10 {
			arg := roomy(p)
			impl.DskText(impl.DskLine{Kind: kind, P: arg})
			wantUntouched(t, arg, p, "DskText")
		}
	}
}
