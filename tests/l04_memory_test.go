package tests

import (
	"fmt"
	"slices"
	"sync"
	"testing"

	"loop.example/g00523/impl"
)

// markNumber is in no list of the tests of sequences.
const markNumber = -77

// allParsers are those without a fault, and some with each.
func allParsers() []impl.Parser {
	parsers := append(goodParsers(), impl.Parser{Mode: -1}, impl.Parser{Mode: 4, Params: []int64{1}}, impl.Parser{Set: 1}, impl.Parser{Mode: 1, Private: true}, impl.Parser{Params: []int64{5}}, impl.Parser{Mode: 2},
		impl.Parser{Mode: 3}, impl.Parser{Mode: 3, Set: 1, Params: []int64{5, 6}}, impl.Parser{Mode: bigNumbers[0], Set: bigNumbers[3], Params: slices.Clone(bigNumbers)})
	for _, x := range someParams() {
		parsers = append(parsers, impl.Parser{Mode: 2, Params: x.list})
	}
	return parsers
}

// parsedLists are told in the tests of memory: sequences that begin, go on and end, controls, nothing, too many, and what is no character.
func parsedLists() [][]int64 {
	return [][]int64{nil, {'m'}, {'5'}, {';'}, {'?'}, {10}, {24}, {27}, {127}, {228}, {-1}, {'5', ';', '6', 'm', -1},
		charsOf("1;2m\x1b[3;4m\x1b[5;6"), charsOf("m\x1b[m\x1b[m\x1b[m\x1b["), charsOf(";;;;;;7m\x1b[1;2;3;4;5;6;7H\n\x1b[;;;;;;9"), charsOf("\x1b[1;2\x18a\x1b(0\x1b[8"), tooLong}
}

// numbersIn are the lists of numbers of an answer: those of each action, and of the parser.
func numbersIn(r impl.ActionsResult) [][]int64 {
	var lists [][]int64
	for _, a := range r.Actions {
		lists = append(lists, a.Params)
	}
	return append(lists, r.Parser.Params)
}

// manyAsks are calls of ParseMany, and of StepParser told as such.
func manyAsks() []func(impl.Parser) impl.ActionsResult {
	var asks []func(impl.Parser) impl.ActionsResult
	for _, list := range parsedLists() {
		asks = append(asks, func(p impl.Parser) impl.ActionsResult { return impl.ParseMany(p, list) })
	}
	for _, c := range []int64{'m', '5', ';', '?', '[', '(', ' ', 10, 24, 26, 27, 127, 128, -1, 65536} {
		asks = append(asks, func(p impl.Parser) impl.ActionsResult {
			r := impl.StepParser(p, c)
			return impl.ActionsResult{Code: r.Code, Actions: []impl.Action{r.Action}, Parser: r.Parser}
		})
	}
	return asks
}

// manyAll tells all of an answer.
func manyAll(r impl.ActionsResult) string {
	return fmt.Sprint(r.Code, len(r.Actions), actionsAll(r.Actions), parserAll(r.Parser))
}

func TestParsersStay(t *testing.T) {
	for _, p := range allParsers() {
		given := p
		short, whole := withRoom(p.Params, markNumber)
		given.Params = short
		before := slices.Clone(whole)
		for i, ask := range manyAsks() {
			ask(given)
			if !slices.Equal(whole, before) {
				t.Fatalf("call %d changed %v", i, p)
			}
		}
		impl.ParserFault(given)
		impl.SameParsers(given, given)
		impl.SameParsers(given, parserInParams(false, 1, 2, 3, 4, 5, 6))
		impl.SameParsers(parserInParams(true, 1, 2, 3, 4, 5, 6), given)
		if !slices.Equal(whole, before) {
			t.Fatalf("ParserFault or SameParsers changed %v", p)
		}
	}
}

func TestParsedListsStay(t *testing.T) {
	for _, p := range allParsers() {
		for _, list := range parsedLists() {
			short, whole := withRoom(list, markNumber)
			before := slices.Clone(whole)
			r := impl.ParseMany(p, short)
			if !slices.Equal(whole, before) {
				t.Fatalf("ParseMany(%v) changed its list %v", p, list)
			}
			want := manyAll(r)
			overwrite(whole, 1)
			if manyAll(r) != want {
				t.Fatalf("an answer of ParseMany(%v) turned with its list %v", p, list)
			}
		}
	}
}

// The numbers of a parser may be the list itself that is told: neither is turned.
func TestParserAndListInOnePiece(t *testing.T) {
	numbers := charsOf("1;2m\x1b[")
	p := parserInParams(false, numbers[:6]...)
	want := manyAll(impl.ParseMany(parserInParams(false, slices.Clone(numbers[:6])...), slices.Clone(numbers)))
	before := slices.Clone(numbers)
	if got := manyAll(impl.ParseMany(p, numbers)); got != want || !slices.Equal(numbers, before) {
		t.Errorf("in one piece %s, want %s", got, want)
	}
}

// A list of an answer that is overwritten, with the room behind it, turns no argument and no other list of any answer.
func TestParserAnswersAreNew(t *testing.T) {
	for _, p := range allParsers() {
		for i, ask := range manyAsks() {
			given := p
			short, whole := withRoom(p.Params, markNumber)
			given.Params = short
			before := slices.Clone(whole)
			first, second := ask(given), ask(given)
			want := manyAll(first)
			wantApart(t, numbersIn(first))
			overwrite(first.Actions, impl.Action{Kind: 9, Char: 9})
			if !slices.Equal(whole, before) {
				t.Fatalf("call %d of %v answers memory of its parser", i, p)
			}
			overwrite(whole, 5)
			if manyAll(second) != want {
				t.Fatalf("an answer of call %d of %v turns with its parser, or with another answer", i, p)
			}
			if third := ask(p); manyAll(third) != want {
				t.Fatalf("call %d of %v answers another time %v", i, p, third)
			}
		}
	}
}

// wantApart overwrites one list after the other, and asks that no other one turns.
func wantApart(t *testing.T, lists [][]int64) {
	t.Helper()
	for i := range lists {
		var others [][]int64
		for _, list := range lists {
			others = append(others, slices.Clone(list))
		}
		overwrite(lists[i], int64(5000+i))
		for j := range lists {
			if j != i && !slices.Equal(lists[j], others[j]) {
				t.Fatalf("lists %d and %d of one answer share memory", i, j)
			}
		}
	}
}

// A parser goes on from an answer as often as one wants: what is heard next turns nothing of it.
func TestParserGoesOnTwice(t *testing.T) {
	for _, p := range goodParsers() {
		begun := impl.StepParser(p, 7).Parser
		want := parserAll(begun)
		for _, list := range parsedLists() {
			one := manyAll(impl.ParseMany(begun, list))
			if two := manyAll(impl.ParseMany(begun, list)); one != two || parserAll(begun) != want {
				t.Fatalf("%v behind %v tells %s, then %s", list, p, one, two)
			}
		}
	}
}

func TestActionsStay(t *testing.T) {
	for _, x := range someParams() {
		for kind := int64(-1); kind <= 6; kind++ {
			short, whole := withRoom(x.list, markNumber)
			before := slices.Clone(whole)
			a := impl.Action{Kind: kind, Char: 77, Params: short}
			code, text := impl.ActionFault(a), impl.ActionText(a)
			if !slices.Equal(whole, before) {
				t.Fatalf("an action with %v was changed", x.list)
			}
			if again := impl.ActionText(a); again != text || impl.ActionFault(a) != code {
				t.Fatalf("%v answers another time %v", a, again)
			}
		}
	}
}

// parseAnswers calls every function of chapter 4 with that parser and number, and tells all answers.
func parseAnswers(p impl.Parser, n int64) string {
	out := fmt.Sprint(impl.ParserFault(p), impl.StepParser(p, n), impl.SameParsers(p, parserInParams(false, n)))
	for _, list := range [][]int64{nil, {n}, {27, '[', n}, {n, n, n, 'm'}, {27, n, n}, slices.Repeat([]int64{n}, 40)} {
		out += manyAll(impl.ParseMany(p, list))
	}
	q := p
	q.Mode = n
	out += fmt.Sprint(impl.ParserFault(q), impl.StepParser(q, '5'), manyAll(impl.ParseMany(q, []int64{'5', ';', 'm'})))
	q = p
	q.Set = n
	out += fmt.Sprint(impl.ParserFault(q), impl.StepParser(q, '5'), manyAll(impl.ParseMany(q, []int64{'5', ';', 'm'})))
	for _, a := range []impl.Action{{Kind: n}, {Kind: 1, Char: n}, {Kind: 3, Char: n}, {Kind: 5, Char: 48, Set: n}, {Kind: 4, Char: n, Params: p.Params}, {Kind: n, Char: n, Set: n, Params: p.Params}, {Kind: 4, Char: 77, Private: true, Params: []int64{n}}} {
		out += fmt.Sprint(impl.ActionFault(a), impl.ActionText(a))
	}
	return out
}

// Whatever comes in, from however many callers, in whatever order: nothing panics, and the same call answers the same.
func TestParsersAnswerAtEveryArgument(t *testing.T) {
	parsers := allParsers()
	numbers := append([]int64{-1, 0, 1, 2, 3, 4, 5, 6, 24, 26, 27, 31, 32, 40, 47, 48, 57, 59, 63, 64, 91, 126, 127, 128, 999, 1000, 55296, 65535, 65536}, bigNumbers...)
	all := make([][]string, 3)
	var wait sync.WaitGroup
	for i := range all {
		wait.Go(func() {
			for _, p := range parsers {
				for _, n := range numbers {
					all[i] = append(all[i], parseAnswers(p, n))
				}
			}
		})
	}
	wait.Wait()
	for i, p := range slices.Backward(parsers) {
		for j, n := range slices.Backward(numbers) {
			want := parseAnswers(p, n)
			for _, one := range all {
				if one[i*len(numbers)+j] != want {
					t.Fatalf("other answers at %v, %d", p, n)
				}
			}
		}
	}
}

// A parser, an action and a list of which nil and an empty list are the numbers answer the same.
func TestNoNumbersAndNil(t *testing.T) {
	for _, p := range allParsers() {
		if len(p.Params) > 0 {
			continue
		}
		other := p
		p.Params, other.Params = nil, []int64{}
		if !impl.SameParsers(p, other) || !impl.SameParsers(other, p) {
			t.Errorf("SameParsers(%v) of nil and of an empty list is false", p)
		}
		for _, c := range []int64{'a', '[', '(', '5', 10, 24, 27, 127, 228, -1} {
			if a, b := parseAnswers(p, c), parseAnswers(other, c); a != b {
				t.Fatalf("with nil %s, with an empty list %s", a, b)
			}
		}
	}
	for kind := int64(-1); kind <= 6; kind++ {
		a, b := goodAction(kind, 77), goodAction(kind, 77)
		a.Params, b.Params = nil, []int64{}
		if impl.ActionFault(a) != impl.ActionFault(b) || impl.ActionText(a) != impl.ActionText(b) {
			t.Errorf("kind %d: with nil another answer than with an empty list", kind)
		}
	}
}
