package tests

import (
	"fmt"
	"slices"
	"strconv"
	"strings"
	"testing"

	"loop.example/g00523/impl"
)

func parserInText() impl.Parser {
	return impl.Parser{}
}

func parserInEscape() impl.Parser {
	return impl.Parser{Mode: 1}
}

func parserInParams(private bool, params ...int64) impl.Parser {
	return impl.Parser{Mode: 2, Private: private, Params: params}
}

func parserInSet(set int64) impl.Parser {
	return impl.Parser{Mode: 3, Set: set}
}

// goodParsers are of every mode, with each number of numbers, at their bounds and between.
func goodParsers() []impl.Parser {
	parsers := []impl.Parser{parserInText(), parserInEscape(), parserInSet(1), parserInSet(2)}
	for _, private := range []bool{false, true} {
		for count := 1; count <= 6; count++ {
			for _, n := range []int64{0, 1, 99, 100, 998, 999} {
				params := slices.Repeat([]int64{7}, count)
				params[count-1] = n
				parsers = append(parsers, parserInParams(private, params...))
			}
		}
		parsers = append(parsers, parserInParams(private, 0, 1, 22, 333, 998, 999), parserInParams(private, 999, 0))
	}
	return parsers
}

// parserAll, actionAll and actionsAll tell all that there is, without the program's own words.
func parserAll(p impl.Parser) string {
	return fmt.Sprint(p.Mode, p.Set, p.Private, len(p.Params), p.Params)
}

func actionAll(a impl.Action) string {
	return fmt.Sprint(a.Kind, a.Char, a.Set, a.Private, len(a.Params), a.Params)
}

func actionsAll(list []impl.Action) string {
	var out []string
	for _, a := range list {
		out = append(out, actionAll(a))
	}
	return strings.Join(out, " / ")
}

// onlyStepCode and onlyManyCode tell whether an answer has that code and nothing beside it.
func onlyStepCode(r impl.ParserResult, code int64) bool {
	return r.Code == code && actionAll(r.Action) == actionAll(impl.Action{}) && parserAll(r.Parser) == parserAll(impl.Parser{})
}

func onlyManyCode(r impl.ActionsResult, code int64) bool {
	return r.Code == code && len(r.Actions) == 0 && parserAll(r.Parser) == parserAll(impl.Parser{})
}

func numbersOf(words []string) []int64 {
	var list []int64
	for _, w := range words {
		n, err := strconv.ParseInt(w, 10, 64)
		if err != nil {
			panic(err)
		}
		list = append(list, n)
	}
	return list
}

// parserOf is the parser of words: "text", "escape", "set 1", "params private 0 12".
func parserOf(text string) impl.Parser {
	words := strings.Fields(text)
	switch words[0] {
	case "text":
		return parserInText()
	case "escape":
		return parserInEscape()
	case "set":
		return parserInSet(numbersOf(words[1:])[0])
	}
	if words[1] == "private" {
		return parserInParams(true, numbersOf(words[2:])...)
	}
	return parserInParams(false, numbersOf(words[1:])...)
}

// actionOf is the action of its text.
func actionOf(text string) impl.Action {
	words := strings.Fields(text)
	kind := int64(slices.Index([]string{"none", "print", "control", "escape", "params", "set"}, words[0]))
	if kind == 0 {
		return impl.Action{}
	}
	a := impl.Action{Kind: kind, Char: numbersOf(words[1:2])[0]}
	rest := words[2:]
	if kind == 4 && rest[0] == "private" {
		a.Private, rest = true, rest[1:]
	}
	if kind == 4 {
		a.Params = numbersOf(rest)
	}
	if kind == 5 {
		a.Set = numbersOf(rest)[0]
	}
	return a
}

// actionsOf are the actions of their texts, with ", " between.
func actionsOf(text string) []impl.Action {
	var list []impl.Action
	for _, one := range strings.Split(text, ", ") {
		if one != "" {
			list = append(list, actionOf(one))
		}
	}
	return list
}

// charsOf is a text as characters.
func charsOf(text string) []int64 {
	var list []int64
	for _, c := range text {
		list = append(list, int64(c))
	}
	return list
}

// wantStep asks one step, and that neither what is to be done nor the parser then has a fault.
func wantStep(t *testing.T, p impl.Parser, c int64, action impl.Action, then impl.Parser) {
	t.Helper()
	r := impl.StepParser(p, c)
	if r.Code != impl.OK || actionAll(r.Action) != actionAll(action) || parserAll(r.Parser) != parserAll(then) {
		t.Fatalf("StepParser(%v, %d) = %v, want %v and %v", p, c, r, action, then)
	}
	if impl.ActionFault(r.Action) != impl.OK || impl.ParserFault(r.Parser) != impl.OK {
		t.Fatalf("StepParser(%v, %d) = %v has a fault", p, c, r)
	}
}

// wantMany asks a text in text mode: actions and the parser then, in words.
func wantMany(t *testing.T, text, actions, then string) {
	t.Helper()
	r := impl.ParseMany(impl.Parser{}, charsOf(text))
	if r.Code != impl.OK || actionsAll(r.Actions) != actionsAll(actionsOf(actions)) || parserAll(r.Parser) != parserAll(parserOf(then)) {
		t.Errorf("ParseMany(%q) = %v, want %s and %s", text, r, actions, then)
	}
}

func TestParseConstants(t *testing.T) {
	modes := [...]int64{impl.ModeText, impl.ModeEscape, impl.ModeParams, impl.ModeSet}
	kinds := [...]int64{impl.ActNone, impl.ActPrint, impl.ActControl, impl.ActEscape, impl.ActParams, impl.ActSet}
	if modes != [...]int64{0, 1, 2, 3} || kinds != [...]int64{0, 1, 2, 3, 4, 5} || impl.MaxParams != 6 || impl.MaxParam != 999 {
		t.Error(modes, kinds, impl.MaxParams, impl.MaxParam)
	}
}

// Each mode against the kinds of characters, by hand: what is to be done, and the parser then ("=": it stays).
func TestStepParserByHand(t *testing.T) {
	const nothing, stays, text = "none > text", "none > =", " > text"
	modes := []string{"text", "escape", "set 2", "params 4 12"}
	for _, x := range []struct {
		chars []int64
		want  [4]string
	}{
		{[]int64{24, 26}, [4]string{nothing, nothing, nothing, nothing}},
		{[]int64{27}, [4]string{"none > escape", "none > escape", "none > escape", "none > escape"}},
		{[]int64{0, 7, 8, 9, 10, 13, 14, 23, 25, 28, 31}, [4]string{"control # > =", "control # > =", "control # > =", "control # > ="}},
		{[]int64{127}, [4]string{stays, stays, stays, stays}},
		{[]int64{32, 33, 39, 42, 46, 47}, [4]string{"print #" + text, nothing, "set # 2" + text, stays}},
		{[]int64{'('}, [4]string{"print #" + text, "none > set 1", "set # 2" + text, stays}},
		{[]int64{')'}, [4]string{"print #" + text, "none > set 2", "set # 2" + text, stays}},
		{[]int64{48}, [4]string{"print #" + text, "escape #" + text, "set # 2" + text, "none > params 4 120"}},
		{[]int64{53}, [4]string{"print #" + text, "escape #" + text, "set # 2" + text, "none > params 4 125"}},
		{[]int64{57}, [4]string{"print #" + text, "escape #" + text, "set # 2" + text, "none > params 4 129"}},
		{[]int64{58, 60, 61, 62}, [4]string{"print #" + text, "escape #" + text, "set # 2" + text, stays}},
		{[]int64{';'}, [4]string{"print #" + text, "escape #" + text, "set # 2" + text, "none > params 4 12 0"}},
		{[]int64{'?'}, [4]string{"print #" + text, "escape #" + text, "set # 2" + text, "none > params private 4 12"}},
		{[]int64{'['}, [4]string{"print #" + text, "none > params 0", "set # 2" + text, "params # 4 12" + text}},
		{[]int64{64, 65, 90, 92, 96, 97, 122, 125, 126}, [4]string{"print #" + text, "escape #" + text, "set # 2" + text, "params # 4 12" + text}},
		{[]int64{128, 155, 228, 256 + 27, 256 + 48, 55295, 57344, 65533, 65535}, [4]string{"print #" + text, nothing, "set # 2" + text, nothing}},
	} {
		for i, want := range x.want {
			for _, c := range x.chars {
				action, then, _ := strings.Cut(want, " > ")
				if then == "=" {
					then = modes[i]
				}
				wantStep(t, parserOf(modes[i]), c, actionOf(strings.ReplaceAll(action, "#", strconv.FormatInt(c, 10))), parserOf(then))
			}
		}
	}
}

// stepped is what StepParser has to answer, told by pieces of the range of characters.
func stepped(p impl.Parser, c int64) (impl.Action, impl.Parser) {
	all := []func(impl.Parser, int64) (impl.Action, impl.Parser){steppedText, steppedEscape, steppedParams, steppedSet}
	if strings.ContainsRune("\x18\x1a", rune(c)) {
		return impl.Action{}, impl.Parser{}
	}
	if c == 27 {
		return impl.Action{}, impl.Parser{Mode: 1}
	}
	if c/32 == 0 {
		return impl.Action{Kind: 2, Char: c}, p
	}
	if c == 127 {
		return impl.Action{}, p
	}
	return all[p.Mode](p, c)
}

func steppedText(_ impl.Parser, c int64) (impl.Action, impl.Parser) {
	return impl.Action{Kind: 1, Char: c}, impl.Parser{}
}

func steppedSet(p impl.Parser, c int64) (impl.Action, impl.Parser) {
	return impl.Action{Kind: 5, Char: c, Set: p.Set}, impl.Parser{}
}

func steppedEscape(_ impl.Parser, c int64) (impl.Action, impl.Parser) {
	switch {
	case c == 91:
		return impl.Action{}, parserInParams(false, 0)
	case c == 40 || c == 41:
		return impl.Action{}, parserInSet(c - 39)
	case 47 < c && c < 127:
		return impl.Action{Kind: 3, Char: c}, impl.Parser{}
	}
	return impl.Action{}, impl.Parser{}
}

func steppedParams(p impl.Parser, c int64) (impl.Action, impl.Parser) {
	most := len(p.Params) - 1
	then := p
	then.Params = slices.Clone(p.Params)
	switch {
	case c > 126:
		return impl.Action{}, impl.Parser{}
	case c > 63:
		return impl.Action{Kind: 4, Char: c, Private: p.Private, Params: p.Params}, impl.Parser{}
	case c == 63:
		then.Private = true
	case c == 59 && most < 5:
		then.Params = append(then.Params, 0)
	case c > 47 && c < 58:
		then.Params[most] = min(999, numbersOf([]string{strconv.FormatInt(p.Params[most], 10) + string(rune(c))})[0])
	}
	return impl.Action{}, then
}

// Every parser with every character that has a meaning of its own, and with those near the bounds.
func TestStepParserEverywhere(t *testing.T) {
	chars := slices.Clone(charEdges)
	for c := range int64(300) {
		chars = append(chars, c)
	}
	for _, p := range goodParsers() {
		for _, c := range chars {
			action, then := stepped(p, c)
			wantStep(t, p, c, action, then)
		}
	}
}

// All characters, in each mode.
func TestStepParserEveryChar(t *testing.T) {
	for _, p := range []impl.Parser{parserInText(), parserInEscape(), parserInSet(1), parserInParams(true, 5)} {
		for c := range int64(65536) {
			if isSurrogate(c) {
				if r := impl.StepParser(p, c); !onlyStepCode(r, impl.ErrRange) {
					t.Fatalf("StepParser(%v, %d) = %v, want ErrRange", p, c, r)
				}
				continue
			}
			action, then := stepped(p, c)
			wantStep(t, p, c, action, then)
		}
	}
}

func TestStepParserNoChar(t *testing.T) {
	for _, p := range goodParsers() {
		for _, c := range slices.Concat([]int64{-1, 55296, 57343, 65536, -24, -27, 65536 + 24, 65536 + 27}, noChars) {
			if r := impl.StepParser(p, c); !onlyStepCode(r, impl.ErrRange) {
				t.Errorf("StepParser(%v, %d) = %v, want ErrRange", p, c, r)
			}
		}
	}
}

// From wherever one is, a cancel leads back to text, and an escape to a new beginning: nothing of what was there is left.
func TestCancelAndEscape(t *testing.T) {
	for _, p := range goodParsers() {
		wantStep(t, p, 24, impl.Action{}, impl.Parser{})
		wantStep(t, p, 26, impl.Action{}, impl.Parser{})
		wantStep(t, p, 27, impl.Action{}, impl.Parser{Mode: impl.ModeEscape})
		for _, c := range []int64{24, 26} {
			r := impl.ParseMany(p, []int64{c, '5', '['})
			if actionsAll(r.Actions) != actionsAll(actionsOf("print 53, print 91")) || parserAll(r.Parser) != parserAll(impl.Parser{}) {
				t.Errorf("behind %v and %d comes %v", p, c, r)
			}
		}
		for text, want := range map[string]string{"\x1b[m": "params 109 0", "\x1b[;5?h": "params 104 private 0 5", "\x1b(0": "set 48 1", "\x1b)U": "set 85 2", "\x1bM": "escape 77", "\x1b\x1b\x1b7": "escape 55"} {
			r := impl.ParseMany(p, charsOf(text))
			if actionsAll(r.Actions) != actionsAll(actionsOf(want)) || parserAll(r.Parser) != parserAll(impl.Parser{}) {
				t.Errorf("behind %v and %q comes %v, want %s", p, text, r, want)
			}
		}
	}
	wantMany(t, "\x1b\x18[m", "print 91, print 109", "text")
	wantMany(t, "\x1b(\x1a0", "print 48", "text")
	wantMany(t, "\x1b[12;3\x184m", "print 52, print 109", "text")
	wantMany(t, "\x1b[?12;3\x1b[4m", "params 109 4", "text")
	wantMany(t, "\x1b)\x1bc", "escape 99", "text")
	wantMany(t, "\x1b[1\x1b(\x1b", "", "escape")
}

// No number leaves its bounds, however many digits it has.
func TestNumbersInSequences(t *testing.T) {
	for digits, want := range map[string]string{
		"": "0", "0": "0", "7": "7", "9": "9", "10": "10", "99": "99", "100": "100", "123": "123", "998": "998", "999": "999",
		"1000": "999", "1001": "999", "9990": "999", "9999": "999", "99999": "999", "12345678901234567890": "999", "10000": "999",
		"00": "0", "007": "7", "0000": "0", "0999": "999", "01000": "999", "00000000000000000012": "12", "9990000": "999", "1000000000": "999",
	} {
		wantMany(t, "\x1b["+digits+"m", "params 109 "+want, "text")
		wantMany(t, "\x1b["+digits, "", "params "+want)
		wantMany(t, "\x1b[4;"+digits+";5m", "params 109 4 "+want+" 5", "text")
		wantMany(t, "\x1b[1;2;3;4;5;"+digits+"m", "params 109 1 2 3 4 5 "+want, "text")
		wantMany(t, "\x1b["+digits+";"+digits+"?m", "params 109 private "+want+" "+want, "text")
	}
	wantMany(t, "\x1b["+strings.Repeat("9", 1990)+"m", "params 109 999", "text")
	wantMany(t, "\x1b["+strings.Repeat("0", 1990)+"8m", "params 109 8", "text")
}

func TestHowManyNumbers(t *testing.T) {
	for text, want := range map[string]string{
		"m": "0", "1m": "1", ";m": "0 0", "1;m": "1 0", ";1m": "0 1", ";;m": "0 0 0", "1;2;3;4;5m": "1 2 3 4 5",
		"1;2;3;4;5;6m": "1 2 3 4 5 6", ";;;;;m": "0 0 0 0 0 0", ";;;;;;m": "0 0 0 0 0 0", ";;;;;;;;;;;;m": "0 0 0 0 0 0",
		// A seventh number has no place: its digits stand behind those of the sixth one.
		"1;2;3;4;5;6;m": "1 2 3 4 5 6", "1;2;3;4;5;6;7m": "1 2 3 4 5 67", "1;2;3;4;5;6;7;8m": "1 2 3 4 5 678", "1;2;3;4;5;6;7;8;9m": "1 2 3 4 5 999", "1;2;3;4;5;6;7;8;9;0m": "1 2 3 4 5 999",
		"?m": "private 0", "?7m": "private 7", "7?m": "private 7", "7?8m": "private 78", "1;?2m": "private 1 2", "1?;2m": "private 1 2", "1;2?m": "private 1 2", "??1?m": "private 1",
		"1;2;3;4;5;6?m": "private 1 2 3 4 5 6", "1;2;3;4;5;6;?m": "private 1 2 3 4 5 6",
		// What is below 64 and has no meaning breaks nothing off.
		"1 2m": "12", "1:2m": "12", ">1m": "1", "!1$/m": "1", "1<;=2m": "1 2", "(1)m": "1", "1-2m": "12", "*/+,.'#\"%&m": "0",
	} {
		wantMany(t, "\x1b["+text, "params 109 "+want, "text")
	}
	wantMany(t, "\x1b[1;2é3m", "print 51, print 109", "text")
	wantMany(t, "\x1b[[", "params 91 0", "text")
	wantMany(t, "\x1b[m1;2", "params 109 0, print 49, print 59, print 50", "text")
	wantMany(t, "\x1b[5m\x1b[m", "params 109 5, params 109 0", "text")
	wantMany(t, "\x1b[?5h\x1b[6h", "params 104 private 5, params 104 6", "text")
}

// Controls and 127 in the midst of a sequence turn nothing of it.
func TestControlsWithinSequences(t *testing.T) {
	wantMany(t, "\x1b\n[\r1\a2\x7f;\b3\tm", "control 10, control 13, control 7, control 8, control 9, params 109 12 3", "text")
	wantMany(t, "\x1b\x7f(\x7f\x000\x7f", "control 0, set 48 1", "text")
	wantMany(t, "\x1b\x19\x1fM", "control 25, control 31, escape 77", "text")
	wantMany(t, "\x1b[\n?\x7f7\x1ch", "control 10, control 28, params 104 private 7", "text")
	wantMany(t, "a\x7fb\nc", "print 97, print 98, control 10, print 99", "text")
	for _, p := range goodParsers() {
		for c := range int64(32) {
			if c != 24 && c != 26 && c != 27 {
				wantStep(t, p, c, impl.Action{Kind: impl.ActControl, Char: c}, p)
			}
		}
		wantStep(t, p, 127, impl.Action{}, p)
	}
	for _, text := range []string{"\x1b[?1;23H", "\x1b(0", "\x1bM", "x\x1b)Uy", "\x1b[;;9;8;7;6;5m"} {
		for at := range len(text) + 1 {
			plain, with := impl.ParseMany(impl.Parser{}, charsOf(text)), impl.ParseMany(impl.Parser{}, charsOf(text[:at]+"\x7f\x05\x7f"+text[at:]))
			others := slices.DeleteFunc(slices.Clone(with.Actions), func(a impl.Action) bool { return a.Kind == impl.ActControl })
			if len(with.Actions) != len(plain.Actions)+1 || actionsAll(others) != actionsAll(plain.Actions) || parserAll(with.Parser) != parserAll(plain.Parser) {
				t.Errorf("a control at %d of %q: %v, want %v", at, text, with, plain)
			}
		}
	}
}

// parsedSlowly is a list told one by one by StepParser.
func parsedSlowly(t *testing.T, p impl.Parser, list []int64) ([]impl.Action, impl.Parser) {
	t.Helper()
	var actions []impl.Action
	for _, c := range list {
		r := impl.StepParser(p, c)
		if r.Code != impl.OK {
			t.Fatalf("StepParser(%v, %d) has code %d", p, c, r.Code)
		}
		if r.Action.Kind != impl.ActNone {
			actions = append(actions, r.Action)
		}
		p = r.Parser
	}
	return actions, p
}

// streamOf is a list of that length in which beginnings, numbers, ends, controls and other characters stand mixed.
func streamOf(seed uint64, length int) []int64 {
	const usual = "\x1b\x1b\x1b\x1b[[[[[[[()0123456789;;;;?mHhlAc7 /:@~x\n\a\x7f\x18\x1a"
	all := append(charsOf(usual), 128, 228, 65535)
	var list []int64
	for range length {
		seed = seed*6364136223846793005 + 1442695040888963407
		list = append(list, all[(seed>>33)%uint64(len(all))])
	}
	return list
}

// wantPieces asks that a list tells in two parts, cut at each place, what it tells at once.
func wantPieces(t *testing.T, p impl.Parser, list []int64, step int) {
	t.Helper()
	whole := impl.ParseMany(p, list)
	actions, then := parsedSlowly(t, p, list)
	if whole.Code != impl.OK || actionsAll(whole.Actions) != actionsAll(actions) || parserAll(whole.Parser) != parserAll(then) {
		t.Fatalf("ParseMany(%v, %v) = %v, one by one %v, %v", p, list, whole, actions, then)
	}
	for at := 0; at <= len(list); at += step {
		first := impl.ParseMany(p, list[:at])
		second := impl.ParseMany(first.Parser, list[at:])
		both := slices.Concat(first.Actions, second.Actions)
		if first.Code != impl.OK || second.Code != impl.OK || impl.ParserFault(first.Parser) != impl.OK || actionsAll(both) != actionsAll(actions) || parserAll(second.Parser) != parserAll(then) {
			t.Fatalf("ParseMany(%v, %v) cut at %d tells %v, %v", p, list, at, first, second)
		}
	}
}

func TestSequencesInPieces(t *testing.T) {
	long := "a\x1b[1;23H\x1b[?7l\x1b(0\x1bM\x1b[9999\n1mx\x1b[2\x18b\x1b[1;2;3;4;5;6;7m\x1b)\x1b[;\x7f;?4hé\x1b€\x1b[3é\x1b["
	for _, p := range goodParsers() {
		wantPieces(t, p, charsOf(long), 1)
	}
	parsers := goodParsers()
	for seed := range 300 {
		wantPieces(t, parsers[seed%len(parsers)], streamOf(uint64(seed), 60), 1)
	}
	wantPieces(t, impl.Parser{}, streamOf(7, 2000), 37)
}

// Whatever is heard, no number leaves its bounds, and what is told has no fault.
func TestStreamsHaveNoFault(t *testing.T) {
	for seed := range uint64(60) {
		p := impl.Parser{}
		for _, c := range streamOf(1000+seed, 500) {
			action, then := stepped(p, c)
			wantStep(t, p, c, action, then)
			p = then
		}
	}
}

func TestParseManyMany(t *testing.T) {
	full := slices.Repeat([]int64{'a'}, 2000)
	for _, p := range goodParsers() {
		if r := impl.ParseMany(p, full); r.Code != impl.OK || parserAll(r.Parser) != parserAll(impl.Parser{}) || len(r.Actions) < 1999 {
			t.Errorf("ParseMany(%v) of 2000 = %d actions, %v", p, len(r.Actions), r.Parser)
		}
		for _, c := range []int64{'a', 27, 127, -1, 65536} {
			if r := impl.ParseMany(p, slices.Repeat([]int64{c}, 2001)); !onlyManyCode(r, impl.ErrMany) {
				t.Errorf("ParseMany(%v) of 2001 times %d has code %d, want ErrMany", p, c, r.Code)
			}
		}
	}
	if r := impl.ParseMany(impl.Parser{}, slices.Repeat([]int64{10}, 2000)); len(r.Actions) != 2000 || actionAll(r.Actions[1999]) != actionAll(actionOf("control 10")) {
		t.Errorf("2000 line feeds are %d actions", len(r.Actions))
	}
	if r := impl.ParseMany(impl.Parser{}, slices.Repeat(charsOf("\x1b[1m"), 500)); len(r.Actions) != 500 || actionAll(r.Actions[499]) != actionAll(actionOf("params 109 1")) {
		t.Errorf("500 sequences are %d actions", len(r.Actions))
	}
}

func TestParseNothing(t *testing.T) {
	for _, p := range goodParsers() {
		for _, list := range [][]int64{nil, {}} {
			if r := impl.ParseMany(p, list); r.Code != impl.OK || len(r.Actions) != 0 || parserAll(r.Parser) != parserAll(p) {
				t.Errorf("ParseMany(%v) of nothing = %v", p, r)
			}
		}
	}
}

// What is no character is a code, wherever it stands, and nothing is told beside it.
func TestParseManyNoChar(t *testing.T) {
	for _, p := range goodParsers() {
		for _, c := range []int64{-1, 55296, 57343, 65536, bigNumbers[0], bigNumbers[3]} {
			list := charsOf("a\x1b[1;2Hb\x18\x1b[3")
			for at := range len(list) + 1 {
				if r := impl.ParseMany(p, slices.Insert(slices.Clone(list), at, c)); !onlyManyCode(r, impl.ErrRange) {
					t.Fatalf("ParseMany(%v) with %d at %d = %v, want ErrRange", p, c, at, r)
				}
			}
		}
	}
	if r := impl.ParseMany(impl.Parser{}, append(slices.Repeat([]int64{'a'}, 1999), -1)); !onlyManyCode(r, impl.ErrRange) {
		t.Errorf("2000 of which the last one is none: code %d", r.Code)
	}
}

func TestSameParsers(t *testing.T) {
	all := append(goodParsers(), impl.Parser{Mode: -1}, impl.Parser{Mode: 4}, impl.Parser{Set: 1}, impl.Parser{Private: true}, impl.Parser{Params: []int64{0}},
		impl.Parser{Mode: 1, Private: true}, impl.Parser{Mode: 2}, impl.Parser{Mode: 2, Private: true}, impl.Parser{Mode: 2, Set: 1, Params: []int64{0}}, impl.Parser{Mode: 3}, impl.Parser{Mode: 3, Set: 3},
		parserInParams(false, 1000), parserInParams(false, -1), parserInParams(false, 7, 7, 7, 7, 7, 7, 7), parserInParams(false, 0, 999))
	for _, a := range all {
		for _, b := range all {
			other := b
			other.Params = slices.Clone(b.Params)
			if got, want := impl.SameParsers(a, other), parserAll(a) == parserAll(b); got != want {
				t.Errorf("SameParsers(%v, %v) = %v", a, b, got)
			}
		}
	}
	if !impl.SameParsers(impl.Parser{}, impl.Parser{Params: []int64{}}) || !impl.SameParsers(impl.Parser{Mode: 2, Params: []int64{}}, impl.Parser{Mode: 2}) {
		t.Error("no numbers and nil are not the same")
	}
}
