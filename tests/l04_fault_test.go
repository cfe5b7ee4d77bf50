package tests

import (
	"slices"
	"strings"
	"testing"

	"loop.example/g00523/impl"
)

// someParams are lists of numbers with the code that they have where numbers are asked for.
func someParams() []struct {
	list []int64
	code int64
} {
	type row = struct {
		list []int64
		code int64
	}
	rows := []row{
		{nil, impl.ErrMany}, {[]int64{}, impl.ErrMany}, {[]int64{0}, 0}, {[]int64{999}, 0}, {[]int64{1, 2, 3, 4, 5, 6}, 0}, {[]int64{0, 0, 0, 0, 0, 0}, 0},
		{[]int64{1, 2, 3, 4, 5, 6, 7}, impl.ErrMany}, {slices.Repeat([]int64{-1}, 7), impl.ErrMany}, {slices.Repeat([]int64{1000}, 8), impl.ErrMany}, {make([]int64, 5000), impl.ErrMany},
		{[]int64{-1}, impl.ErrRange}, {[]int64{1000}, impl.ErrRange}, {[]int64{1001}, impl.ErrRange}, {[]int64{9999}, impl.ErrRange},
	}
	for at := range 6 {
		for _, n := range append([]int64{-1, 0, 999, 1000}, bigNumbers...) {
			list := []int64{1, 2, 3, 4, 5, 6}
			list[at] = n
			code := int64(impl.OK)
			if n < 0 || n > 999 {
				code = impl.ErrRange
			}
			rows = append(rows, row{list, code})
		}
	}
	return rows
}

var (
	someSets  = append([]int64{-2, -1, 0, 1, 2, 3, 4}, bigNumbers...)
	someKinds = append([]int64{-2, -1, 0, 1, 2, 3, 4, 5, 6, 7}, bigNumbers...)
)

// What is asked first is told, alone and with all that is asked behind it.
func TestParserFaultByHand(t *testing.T) {
	numbers, wrong, many := []int64{0}, []int64{1000}, []int64{1, 2, 3, 4, 5, 6, -7}
	for _, x := range []struct {
		parser impl.Parser
		code   int64
	}{
		{impl.Parser{}, 0},
		{impl.Parser{Mode: 1}, 0},
		{impl.Parser{Mode: 2, Params: numbers}, 0},
		{impl.Parser{Mode: 2, Private: true, Params: numbers}, 0},
		{impl.Parser{Mode: 3, Set: 1}, 0},
		{impl.Parser{Mode: 3, Set: 2}, 0},

		{impl.Parser{Mode: -1}, impl.ErrForm},
		{impl.Parser{Mode: 4}, impl.ErrForm},
		{impl.Parser{Mode: 4, Set: 3, Private: true, Params: many}, impl.ErrForm},
		{impl.Parser{Set: 1}, impl.ErrForm},
		{impl.Parser{Set: 3}, impl.ErrForm},
		{impl.Parser{Set: -1}, impl.ErrForm},
		{impl.Parser{Private: true}, impl.ErrForm},
		{impl.Parser{Params: numbers}, impl.ErrForm},
		{impl.Parser{Params: wrong}, impl.ErrForm},
		{impl.Parser{Params: many}, impl.ErrForm},
		{impl.Parser{Mode: 1, Set: 2}, impl.ErrForm},
		{impl.Parser{Mode: 1, Private: true}, impl.ErrForm},
		{impl.Parser{Mode: 1, Params: numbers}, impl.ErrForm},
		{impl.Parser{Mode: 2, Set: 1, Params: numbers}, impl.ErrForm},
		{impl.Parser{Mode: 2, Set: 3, Params: numbers}, impl.ErrForm},
		{impl.Parser{Mode: 2, Set: 1}, impl.ErrForm},
		{impl.Parser{Mode: 2, Set: -1, Params: many}, impl.ErrForm},
		{impl.Parser{Mode: 2, Set: 1, Params: wrong}, impl.ErrForm},
		{impl.Parser{Mode: 3, Set: 1, Private: true}, impl.ErrForm},
		{impl.Parser{Mode: 3, Set: 1, Params: numbers}, impl.ErrForm},
		{impl.Parser{Mode: 3, Set: 0, Private: true}, impl.ErrForm},
		{impl.Parser{Mode: 3, Set: 3, Params: many}, impl.ErrForm},

		{impl.Parser{Mode: 3}, impl.ErrRange},
		{impl.Parser{Mode: 3, Set: 3}, impl.ErrRange},
		{impl.Parser{Mode: 3, Set: -1}, impl.ErrRange},

		{impl.Parser{Mode: 2}, impl.ErrMany},
		{impl.Parser{Mode: 2, Private: true}, impl.ErrMany},
		{impl.Parser{Mode: 2, Params: many}, impl.ErrMany},

		{impl.Parser{Mode: 2, Params: wrong}, impl.ErrRange},
		{impl.Parser{Mode: 2, Params: []int64{-1}}, impl.ErrRange},
		{impl.Parser{Mode: 2, Params: []int64{1, 2, 3, 4, 5, 1000}}, impl.ErrRange},
	} {
		wantParserFault(t, x.parser, x.code)
	}
}

// wantParserFault asks that code of the parser, and that the steps tell it ahead of their own codes.
func wantParserFault(t *testing.T, p impl.Parser, code int64) {
	t.Helper()
	if got := impl.ParserFault(p); got != code {
		t.Fatalf("ParserFault(%v) = %d, want %d", p, got, code)
	}
	if code == impl.OK {
		return
	}
	for _, c := range []int64{'a', 24, 27, 10, 127, '5', -1, 55296, 65536} {
		if r := impl.StepParser(p, c); !onlyStepCode(r, code) {
			t.Fatalf("StepParser(%v, %d) = %v, want code %d", p, c, r, code)
		}
	}
	for _, list := range [][]int64{nil, {'a'}, {24}, {-1}, tooLong} {
		if r := impl.ParseMany(p, list); !onlyManyCode(r, code) {
			t.Fatalf("ParseMany(%v) of %d = %v, want code %d", p, len(list), r, code)
		}
	}
}

// tooLong is more than may be told at once.
var tooLong = slices.Repeat([]int64{'a'}, 2001)

// firstCode is the first code of a list that is not 0.
func firstCode(codes ...int64) int64 {
	for _, code := range codes {
		if code != impl.OK {
			return code
		}
	}
	return impl.OK
}

func codeIf(so bool, code int64) int64 {
	if so {
		return code
	}
	return impl.OK
}

// Every mode with every set, with numbers of each kind, Private or not.
func TestParserFaultEverywhere(t *testing.T) {
	for _, mode := range someKinds {
		for _, set := range someSets {
			for _, private := range []bool{false, true} {
				for _, x := range someParams() {
					p := impl.Parser{Mode: mode, Set: set, Private: private, Params: x.list}
					none := mode < 0 || mode > 3
					more := mode != 3 && set != 0 || mode != 2 && (private || len(x.list) > 0)
					want := firstCode(codeIf(none || more, impl.ErrForm), codeIf(mode == 3 && set != 1 && set != 2, impl.ErrRange), codeIf(mode == 2, x.code))
					if got := impl.ParserFault(p); got != want {
						t.Fatalf("ParserFault(%v) = %d, want %d", p, got, want)
					}
				}
			}
		}
	}
}

func TestParserFaultIsAskedFirst(t *testing.T) {
	for _, p := range goodParsers() {
		wantParserFault(t, p, impl.OK)
	}
	for _, x := range someParams() {
		wantParserFault(t, impl.Parser{Mode: 2, Params: x.list}, x.code)
		wantParserFault(t, impl.Parser{Mode: 2, Params: x.list, Private: true}, x.code)
		wantParserFault(t, impl.Parser{Mode: 2, Params: x.list, Set: 1}, impl.ErrForm)
	}
}

// fitsKind tells whether an action of that kind may have that character.
func fitsKind(kind, c int64) bool {
	switch kind {
	case 0:
		return c == 0
	case 1, 5:
		return 32 <= c && c < 65536 && c != 127 && !isSurrogate(c)
	case 2:
		return 0 <= c && c < 32 && !slices.Contains([]int64{24, 26, 27}, c)
	case 3:
		return 48 <= c && c < 127 && c != 91
	}
	return 64 <= c && c < 127
}

// goodAction is one of that kind and character, with all that it has to have.
func goodAction(kind, c int64) impl.Action {
	a := impl.Action{Kind: kind, Char: c}
	if kind == 4 {
		a.Params = []int64{1, 999}
	}
	if kind == 5 {
		a.Set = 2
	}
	return a
}

func TestActionFaultByHand(t *testing.T) {
	numbers, wrong, many := []int64{0}, []int64{-1}, []int64{1, 2, 3, 4, 5, 6, 1000}
	for _, x := range []struct {
		action impl.Action
		code   int64
	}{
		{impl.Action{}, 0},
		{impl.Action{Kind: 1, Char: 32}, 0},
		{impl.Action{Kind: 1, Char: 65535}, 0},
		{impl.Action{Kind: 2, Char: 0}, 0},
		{impl.Action{Kind: 2, Char: 31}, 0},
		{impl.Action{Kind: 3, Char: 48}, 0},
		{impl.Action{Kind: 3, Char: 126}, 0},
		{impl.Action{Kind: 4, Char: 64, Params: numbers}, 0},
		{impl.Action{Kind: 4, Char: '[', Private: true, Params: numbers}, 0},
		{impl.Action{Kind: 5, Char: 32, Set: 1}, 0},
		{impl.Action{Kind: 5, Char: 65535, Set: 2}, 0},

		{impl.Action{Kind: -1}, impl.ErrForm},
		{impl.Action{Kind: 6}, impl.ErrForm},
		{impl.Action{Kind: 6, Char: -1, Set: 3, Private: true, Params: many}, impl.ErrForm},
		{impl.Action{Char: 65}, impl.ErrForm},
		{impl.Action{Char: -1}, impl.ErrForm},
		{impl.Action{Set: 1}, impl.ErrForm},
		{impl.Action{Private: true}, impl.ErrForm},
		{impl.Action{Params: numbers}, impl.ErrForm},
		{impl.Action{Kind: 1, Char: 65, Set: 1}, impl.ErrForm},
		{impl.Action{Kind: 1, Char: 65, Private: true}, impl.ErrForm},
		{impl.Action{Kind: 1, Char: 65, Params: numbers}, impl.ErrForm},
		{impl.Action{Kind: 1, Char: -1, Set: 3, Params: many}, impl.ErrForm},
		{impl.Action{Kind: 2, Char: 10, Set: 2}, impl.ErrForm},
		{impl.Action{Kind: 2, Char: 10, Private: true}, impl.ErrForm},
		{impl.Action{Kind: 2, Char: 27, Params: wrong}, impl.ErrForm},
		{impl.Action{Kind: 3, Char: 77, Set: -1}, impl.ErrForm},
		{impl.Action{Kind: 3, Char: 77, Private: true}, impl.ErrForm},
		{impl.Action{Kind: 3, Char: '[', Params: numbers}, impl.ErrForm},
		{impl.Action{Kind: 4, Char: 77, Set: 1, Params: numbers}, impl.ErrForm},
		{impl.Action{Kind: 4, Char: 63, Set: 3, Params: many}, impl.ErrForm},
		{impl.Action{Kind: 5, Char: 48, Set: 1, Private: true}, impl.ErrForm},
		{impl.Action{Kind: 5, Char: 48, Set: 1, Params: numbers}, impl.ErrForm},
		{impl.Action{Kind: 5, Char: 31, Set: 0, Params: many}, impl.ErrForm},

		{impl.Action{Kind: 1}, impl.ErrRange},
		{impl.Action{Kind: 1, Char: 127}, impl.ErrRange},
		{impl.Action{Kind: 1, Char: 55296}, impl.ErrRange},
		{impl.Action{Kind: 2, Char: 24}, impl.ErrRange},
		{impl.Action{Kind: 2, Char: 26}, impl.ErrRange},
		{impl.Action{Kind: 2, Char: 27}, impl.ErrRange},
		{impl.Action{Kind: 2, Char: 32}, impl.ErrRange},
		{impl.Action{Kind: 2, Char: -1}, impl.ErrRange},
		{impl.Action{Kind: 3, Char: 47}, impl.ErrRange},
		{impl.Action{Kind: 3, Char: '['}, impl.ErrRange},
		{impl.Action{Kind: 3, Char: 127}, impl.ErrRange},
		{impl.Action{Kind: 4, Char: 63, Params: numbers}, impl.ErrRange},
		{impl.Action{Kind: 4, Char: 127, Params: many}, impl.ErrRange},
		{impl.Action{Kind: 4, Char: 63}, impl.ErrRange},
		{impl.Action{Kind: 5, Char: 48}, impl.ErrRange},
		{impl.Action{Kind: 5, Char: 48, Set: 3}, impl.ErrRange},
		{impl.Action{Kind: 5, Char: 127, Set: 1}, impl.ErrRange},

		{impl.Action{Kind: 4, Char: 77}, impl.ErrMany},
		{impl.Action{Kind: 4, Char: 77, Private: true}, impl.ErrMany},
		{impl.Action{Kind: 4, Char: 77, Params: many}, impl.ErrMany},

		{impl.Action{Kind: 4, Char: 77, Params: wrong}, impl.ErrRange},
		{impl.Action{Kind: 4, Char: 77, Params: []int64{1, 2, 3, 4, 5, 1000}}, impl.ErrRange},
	} {
		wantActionFault(t, x.action, x.code)
	}
}

// wantActionFault asks that code of the action, and that its text tells it too.
func wantActionFault(t *testing.T, a impl.Action, code int64) {
	t.Helper()
	if got := impl.ActionFault(a); got != code {
		t.Fatalf("ActionFault(%v) = %d, want %d", a, got, code)
	}
	if r := impl.ActionText(a); r.Code != code || (r.Text == "") != (code != impl.OK) {
		t.Fatalf("ActionText(%v) = %v, want code %d", a, r, code)
	}
}

// Every kind with every set, with numbers of each kind, Private or not, and with characters that fit and that do not.
func TestActionFaultEverywhere(t *testing.T) {
	chars := append([]int64{-1, 0, 10, 24, 26, 27, 31, 32, 47, 48, 63, 64, 91, 126, 127, 128, 55296, 65535, 65536}, bigNumbers[0], bigNumbers[3], 1<<32+65)
	for _, kind := range someKinds {
		for _, set := range someSets {
			for _, private := range []bool{false, true} {
				for i, x := range someParams() {
					// All characters with the first lists, and with the others one after the other.
					some := chars
					if i > 14 {
						some = chars[i%len(chars):][:1]
					}
					for _, c := range some {
						a := impl.Action{Kind: kind, Char: c, Set: set, Private: private, Params: x.list}
						wantActionFault(t, a, actionCode(a, x.code))
					}
				}
			}
		}
	}
}

// actionCode is the code of an action whose numbers have that one.
func actionCode(a impl.Action, numbers int64) int64 {
	none := a.Kind < 0 || a.Kind > 5
	more := a.Kind == 0 && a.Char != 0 || a.Kind != 5 && a.Set != 0 || a.Kind != 4 && (a.Private || len(a.Params) > 0)
	return firstCode(codeIf(none || more, impl.ErrForm),
		codeIf(!fitsKind(a.Kind, a.Char) || a.Kind == 5 && a.Set != 1 && a.Set != 2, impl.ErrRange),
		codeIf(a.Kind == 4, numbers))
}

// Each kind with each character.
func TestActionFaultEveryChar(t *testing.T) {
	all := slices.Concat(noChars, hiddenEdges, shownEdges)
	for c := range int64(65540) {
		all = append(all, c)
	}
	for kind := int64(1); kind <= 5; kind++ {
		for _, c := range all {
			want := codeIf(!fitsKind(kind, c), impl.ErrRange)
			if got := impl.ActionFault(goodAction(kind, c)); got != want {
				t.Fatalf("ActionFault(%v) = %d, want %d", goodAction(kind, c), got, want)
			}
		}
	}
}

func TestActionText(t *testing.T) {
	for _, text := range []string{
		"none",
		"print 32", "print 65", "print 126", "print 128", "print 55295", "print 57344", "print 65535",
		"control 0", "control 7", "control 10", "control 25", "control 31",
		"escape 48", "escape 77", "escape 90", "escape 92", "escape 126",
		"params 64 0", "params 72 1 23", "params 109 999", "params 126 1 2 3 4 5 6", "params 104 0 0 0", "params 91 10 100",
		"params 108 private 7", "params 104 private 0", "params 64 private 1 2 3 4 5 999", "params 109 private 6 7",
		"set 48 1", "set 85 2", "set 32 1", "set 126 2", "set 65535 1",
	} {
		if r := impl.ActionText(actionOf(text)); r.Code != impl.OK || r.Text != text {
			t.Errorf("ActionText(%v) = %v, want %q", actionOf(text), r, text)
		}
	}
	if r := impl.ActionText(impl.Action{Params: []int64{}}); r.Code != impl.OK || r.Text != "none" {
		t.Errorf("ActionText of none with an empty list = %v", r)
	}
}

// Every action that fits is told by its text whole.
func TestActionTextIsReadBack(t *testing.T) {
	for kind := range int64(6) {
		for c := range int64(65536) {
			if !fitsKind(kind, c) || c > 300 && c%97 != 0 {
				continue
			}
			for _, a := range []impl.Action{goodAction(kind, c), withPrivate(goodAction(kind, c))} {
				r := impl.ActionText(a)
				if r.Code != impl.OK || actionAll(actionOf(r.Text)) != actionAll(a) || strings.Join(strings.Fields(r.Text), " ") != r.Text {
					t.Fatalf("ActionText(%v) = %v", a, r)
				}
			}
		}
	}
}

// withPrivate is the action, Private where it may be.
func withPrivate(a impl.Action) impl.Action {
	a.Private = a.Kind == impl.ActParams
	return a
}
