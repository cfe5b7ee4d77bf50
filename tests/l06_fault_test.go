package tests

import (
	"bytes"
	"slices"
	"testing"

	"loop.example/g00523/impl"
)

// vtTurn turns something of a terminal.
type vtTurn = func(*impl.Vt)

// turnedVt is a terminal, with lists of its own, with something of it turned.
func turnedVt(v impl.Vt, turns ...vtTurn) impl.Vt {
	v.Parser.Params, v.Screen = slices.Clone(v.Parser.Params), turned(v.Screen)
	for _, turn := range turns {
		turn(&v)
	}
	return v
}

// faultTurn is a turn that makes a fault with that code.
type faultTurn struct {
	turn vtTurn
	code int64
}

func decoderTurns() []faultTurn {
	wrong := []impl.Decoder{
		{Left: -1}, {Left: 1}, {Left: 2}, {Left: 3, Low: 2048}, {Low: 128}, {Low: 2048}, {Value: 1}, {Left: 1, Low: 128, Value: 1}, {Left: 1, Low: 128, Value: 32},
		{Left: 2, Low: 2048, Value: 16}, {Left: 2, Low: 128, Value: 2}, {Left: 1, Low: 2048, Value: 1024}, {Left: 1, Low: 2048, Value: -1},
	}
	for _, n := range bigNumbers[:5] {
		wrong = append(wrong, impl.Decoder{Left: n}, impl.Decoder{Left: 1, Low: n, Value: 2}, impl.Decoder{Left: 1, Low: 2048, Value: n})
	}
	var turns []faultTurn
	for _, d := range wrong {
		turns = append(turns, faultTurn{func(v *impl.Vt) { v.Decoder = d }, impl.ErrRange})
	}
	return turns
}

func parserTurns() []faultTurn {
	var turns []faultTurn
	for _, x := range []struct {
		parser impl.Parser
		code   int64
	}{
		{impl.Parser{Mode: -1}, impl.ErrForm}, {impl.Parser{Mode: 4}, impl.ErrForm}, {impl.Parser{Set: 1}, impl.ErrForm}, {impl.Parser{Mode: 1, Private: true}, impl.ErrForm},
		{impl.Parser{Params: []int64{5}}, impl.ErrForm}, {impl.Parser{Mode: 2, Set: 1, Params: []int64{1000}}, impl.ErrForm}, {impl.Parser{Mode: bigNumbers[0], Params: slices.Clone(bigNumbers)}, impl.ErrForm},
		{impl.Parser{Mode: 3}, impl.ErrRange}, {impl.Parser{Mode: 3, Set: 3}, impl.ErrRange}, {impl.Parser{Mode: 3, Set: -1}, impl.ErrRange},
		{impl.Parser{Mode: 2}, impl.ErrMany}, {parserInParams(true, 1, 2, 3, 4, 5, 6, 7), impl.ErrMany}, {parserInParams(false, make([]int64, 3000)...), impl.ErrMany},
		{parserInParams(false, 1000), impl.ErrRange}, {parserInParams(true, 1, 2, -1), impl.ErrRange}, {parserInParams(false, bigNumbers[3]), impl.ErrRange},
	} {
		turns = append(turns, faultTurn{func(v *impl.Vt) { v.Parser = x.parser }, x.code})
	}
	return turns
}

// screenTurns make one fault of a screen of each kind.
func screenTurns() []faultTurn {
	turns := []faultTurn{{func(v *impl.Vt) { v.Screen = impl.Screen{} }, impl.ErrRange}, {func(v *impl.Vt) { v.Screen.Grid.Back = append(v.Screen.Grid.Back, blank(0)) }, impl.ErrForm}}
	for i, x := range wrongScreens() {
		if i%101 == 0 || i%13 == 0 && x.code == impl.ErrForm {
			turns = append(turns, faultTurn{func(v *impl.Vt) { v.Screen = turned(x.screen) }, x.code})
		}
	}
	return turns
}

// wrongVt is a terminal with the code that it has to be told.
type wrongVt struct {
	vt   impl.Vt
	code int64
}

// wrongVts have each fault of the decoder, of the parser and of the screen alone, and together with those that are asked behind it.
func wrongVts() []wrongVt {
	good := impl.Vt{Decoder: impl.Decoder{Left: 2, Low: 2048, Value: 2}, Parser: parserInParams(true, 7, 12), Screen: screenOfSize(3, 4, 2)}
	var wrong []wrongVt
	add := func(code int64, turns ...vtTurn) {
		wrong = append(wrong, wrongVt{turnedVt(good, turns...), code}, wrongVt{turnedVt(emptyVt(2, 2), turns...), code})
	}
	decoders, parsers, screens := decoderTurns(), parserTurns(), screenTurns()
	for i, d := range decoders {
		add(d.code, d.turn)
		for j, p := range parsers {
			add(d.code, d.turn, p.turn)
			for k, s := range screens {
				if (i+j+k)%11 == 0 {
					add(d.code, d.turn, p.turn, s.turn)
				}
			}
		}
		for k, s := range screens {
			if (i+k)%5 == 0 {
				add(d.code, d.turn, s.turn)
			}
		}
	}
	for _, p := range parsers {
		add(p.code, p.turn)
		for _, s := range screens {
			add(p.code, p.turn, s.turn)
		}
	}
	for _, s := range screens {
		add(s.code, s.turn)
	}
	return append(wrong, wrongVt{impl.Vt{}, impl.ErrRange})
}

func TestVtFault(t *testing.T) {
	codes := map[int64]int{}
	for _, x := range wrongVts() {
		codes[x.code]++
		if code := impl.VtFault(x.vt); code != x.code {
			t.Fatalf("VtFault(%v) = %d, want %d", x.vt, code, x.code)
		}
	}
	if codes[impl.ErrForm] == 0 || codes[impl.ErrMany] == 0 || codes[impl.ErrRange] == 0 || len(codes) != 3 {
		t.Errorf("faults that were asked: %v", codes)
	}
	for _, v := range manyVts(2) {
		if code := impl.VtFault(v.vt); code != impl.OK {
			t.Fatalf("VtFault(%v) = %d", v.vt, code)
		}
	}
	for _, w := range allWaiting() {
		if code := impl.VtFault(impl.Vt{Decoder: w.decoder, Screen: emptyScreen(1, 2)}); code != impl.OK {
			t.Fatalf("with the decoder %v: %d", w.decoder, code)
		}
	}
}

// The fault is told ahead of too many bytes, and of a size that is none; nothing is told beside it.
func TestVtFaultIsAskedFirst(t *testing.T) {
	texts := [][]byte{nil, {}, {'a'}, {195, 164}, []byte("\x1bc"), []byte("\x18\x1b[1;2Hx"), bytes.Repeat([]byte{'a'}, 2000), bytes.Repeat([]byte{'a'}, 2001)}
	for _, x := range wrongVts() {
		for _, data := range texts {
			if r := impl.WriteVt(x.vt, data); !onlyVtCode(r, x.code) {
				t.Fatalf("%d bytes on %v = %v, want %d", len(data), x.vt, r, x.code)
			}
		}
		for _, size := range [][2]int64{{1, 2}, {3, 4}, {6, 12}, {0, 2}, {7, 13}, {bigNumbers[3], bigNumbers[0]}} {
			if r := impl.ResizeVt(x.vt, size[0], size[1]); !onlyVtCode(r, x.code) {
				t.Fatalf("%v to %v = %v, want %d", x.vt, size, r, x.code)
			}
		}
		if r := impl.VtText(x.vt); r != (impl.TextResult{Code: x.code}) {
			t.Fatalf("VtText(%v) = %v, want %d", x.vt, r, x.code)
		}
	}
}

// vtFieldTurns make each field alone another one, also what SameShown does not ask.
func vtFieldTurns() map[string]vtTurn {
	return map[string]vtTurn{
		"Left":        func(v *impl.Vt) { v.Decoder.Left++ },
		"Low":         func(v *impl.Vt) { v.Decoder.Low++ },
		"Value":       func(v *impl.Vt) { v.Decoder.Value++ },
		"Mode":        func(v *impl.Vt) { v.Parser.Mode++ },
		"Set":         func(v *impl.Vt) { v.Parser.Set++ },
		"Private":     func(v *impl.Vt) { v.Parser.Private = !v.Parser.Private },
		"more Params": func(v *impl.Vt) { v.Parser.Params = append(v.Parser.Params, 0) },
		"Rows":        func(v *impl.Vt) { v.Screen.Grid.Rows++ },
		"Width":       func(v *impl.Vt) { v.Screen.Grid.Width++ },
		"first Char":  func(v *impl.Vt) { v.Screen.Grid.Cells[0].Char++ },
		"last Char":   func(v *impl.Vt) { v.Screen.Grid.Cells[len(v.Screen.Grid.Cells)-1].Char++ },
		"first Attr":  func(v *impl.Vt) { v.Screen.Grid.Cells[0].Attr++ },
		"last Attr":   func(v *impl.Vt) { v.Screen.Grid.Cells[len(v.Screen.Grid.Cells)-1].Attr++ },
		"less Cells":  func(v *impl.Vt) { v.Screen.Grid.Cells = v.Screen.Grid.Cells[1:] },
		"no Cells":    func(v *impl.Vt) { v.Screen.Grid.Cells = nil },
		"more Back":   func(v *impl.Vt) { v.Screen.Grid.Back = append(v.Screen.Grid.Back, blank(0)) },
		"Y":           func(v *impl.Vt) { v.Screen.Y++ },
		"X":           func(v *impl.Vt) { v.Screen.X++ },
		"Wrap":        func(v *impl.Vt) { v.Screen.Wrap = !v.Screen.Wrap },
		"Attr":        func(v *impl.Vt) { v.Screen.Attr++ },
		"Top":         func(v *impl.Vt) { v.Screen.Top++ },
		"Bottom":      func(v *impl.Vt) { v.Screen.Bottom++ },
		"Origin":      func(v *impl.Vt) { v.Screen.Origin = !v.Screen.Origin },
		"AutoWrap":    func(v *impl.Vt) { v.Screen.AutoWrap = !v.Screen.AutoWrap },
		"Insert":      func(v *impl.Vt) { v.Screen.Insert = !v.Screen.Insert },
		"first Tab":   func(v *impl.Vt) { v.Screen.Tabs[0] = !v.Screen.Tabs[0] },
		"last Tab":    func(v *impl.Vt) { v.Screen.Tabs[len(v.Screen.Tabs)-1] = !v.Screen.Tabs[len(v.Screen.Tabs)-1] },
		"more Tabs":   func(v *impl.Vt) { v.Screen.Tabs = append(v.Screen.Tabs, false) },
		"KeptY":       func(v *impl.Vt) { v.Screen.KeptY++ },
		"KeptX":       func(v *impl.Vt) { v.Screen.KeptX++ },
		"KeptAttr":    func(v *impl.Vt) { v.Screen.KeptAttr++ },
		"first Set":   func(v *impl.Vt) { v.Screen.Sets[0]++ },
		"last Set":    func(v *impl.Vt) { v.Screen.Sets[1]++ },
		"more Sets":   func(v *impl.Vt) { v.Screen.Sets = append(v.Screen.Sets, 1) },
		"Shift":       func(v *impl.Vt) { v.Screen.Shift++ },
		"Bells":       func(v *impl.Vt) { v.Screen.Bells++ },
	}
}

// vtListTurns turn what only a terminal with numbers, and with rows in Back, has.
func vtListTurns() map[string]vtTurn {
	return map[string]vtTurn{
		"first of Params": func(v *impl.Vt) { v.Parser.Params[0]++ },
		"last of Params":  func(v *impl.Vt) { v.Parser.Params[len(v.Parser.Params)-1]++ },
		"less Params":     func(v *impl.Vt) { v.Parser.Params = v.Parser.Params[1:] },
		"no Params":       func(v *impl.Vt) { v.Parser.Params = nil },
		"first of Back":   func(v *impl.Vt) { v.Screen.Grid.Back[0].Char++ },
		"last of Back":    func(v *impl.Vt) { v.Screen.Grid.Back[len(v.Screen.Grid.Back)-1].Attr++ },
		"less Back":       func(v *impl.Vt) { v.Screen.Grid.Back = v.Screen.Grid.Back[1:] },
		"no Back":         func(v *impl.Vt) { v.Screen.Grid.Back = nil },
	}
}

func TestSameVts(t *testing.T) {
	for _, v := range manyVts(53) {
		if other := turnedVt(v.vt); !impl.SameVts(v.vt, other) || !impl.SameVts(other, v.vt) || !impl.SameVts(v.vt, v.vt) {
			t.Fatalf("%v is not the same as itself", v.vt)
		}
		wantOthers(t, v.vt, vtFieldTurns())
	}
	full := impl.Vt{Decoder: impl.Decoder{Left: 1, Low: 2048, Value: 130}, Parser: parserInParams(false, 3, 4, 5), Screen: screenOfSize(3, 4, 3)}
	wantOthers(t, full, vtFieldTurns())
	wantOthers(t, full, vtListTurns())
}

// wantOthers asks that with each of these turns alone a terminal is another one.
func wantOthers(t *testing.T, v impl.Vt, turns map[string]vtTurn) {
	t.Helper()
	for name, one := range turns {
		if other := turnedVt(v, one); impl.SameVts(v, other) || impl.SameVts(other, v) {
			t.Fatalf("%v is the same with another %s", v, name)
		}
	}
}

// All pairs of some terminals, among them such as look alike but wait for something else.
func TestSameVtsOfPairs(t *testing.T) {
	var vts []impl.Vt
	for _, text := range vtTexts {
		vts = append(vts, impl.WriteVt(emptyVt(2, 5), []byte(text)).Vt)
	}
	for _, text := range []string{"", "\xc3", "\xe2", "\xe2\x82", "\x1b", "\x1b[", "\x1b[0", "\x1b[;", "\x1b[?", "\x1b(", "\x1b)", "\a", "\x1b7", "\x1b[C\x1b7\r", "\x1b[S", "\x1b[S\x1b[S"} {
		vts = append(vts, impl.WriteVt(emptyVt(2, 5), []byte(text)).Vt)
	}
	for _, a := range vts {
		for _, b := range vts {
			if got, want := impl.SameVts(a, turnedVt(b)), sameVt(a, b); got != want {
				t.Fatalf("SameVts(%v, %v) = %v", a, b, got)
			}
		}
	}
}

// A fault is no code here: terminals of which all is the same are the same, with the fault that both have.
func TestSameVtsWithFaults(t *testing.T) {
	good := emptyVt(2, 2)
	for _, x := range wrongVts() {
		if !impl.SameVts(x.vt, turnedVt(x.vt)) || impl.SameVts(x.vt, good) || impl.SameVts(good, x.vt) {
			t.Fatalf("SameVts with %v", x.vt)
		}
	}
	if !impl.SameVts(impl.Vt{}, impl.Vt{}) {
		t.Error("the zero value is not the same as itself")
	}
}
