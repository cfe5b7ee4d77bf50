package tests

import (
	"fmt"
	"math/rand/v2"
	"slices"
	"strings"
	"testing"

	"loop.example/g00523/impl"
)

// attrTexts are what each attribute is put out as, behind the escape.
var attrTexts = []string{
	"[0;30m", "[0;31m", "[0;32m", "[0;33m", "[0;34m", "[0;35m", "[0;36m", "[0;37m",
	"[0;30;1m", "[0;31;1m", "[0;32;1m", "[0;33;1m", "[0;34;1m", "[0;35;1m", "[0;36;1m", "[0;37;1m",
	"[0;30;7m", "[0;31;7m", "[0;32;7m", "[0;33;7m", "[0;34;7m", "[0;35;7m", "[0;36;7m", "[0;37;7m",
	"[0;30;1;7m", "[0;31;1;7m", "[0;32;1;7m", "[0;33;1;7m", "[0;34;1;7m", "[0;35;1;7m", "[0;36;1;7m", "[0;37;1;7m",
}

// onlyBytes tells whether an answer has those bytes, and no code.
func onlyBytes(r impl.BytesResult, want string) bool {
	return r.Code == impl.OK && string(r.Bytes) == want
}

// onlyBytesCode tells whether an answer has that code and nothing beside it.
func onlyBytesCode(r impl.BytesResult, code int64) bool {
	return r.Code == code && len(r.Bytes) == 0
}

func placeText(y, x int64) string {
	return fmt.Sprintf("\x1b[%d;%dH", y+1, x+1)
}

func cellText(c impl.Cell) string {
	return "\x1b" + attrTexts[c.Attr] + string(rune(c.Char))
}

// rowBytes is what a row is put out as, by the words of the document.
func rowBytes(s impl.Screen, y int64) string {
	out := placeText(y, 0)
	row := s.Grid.Cells[y*s.Grid.Width : (y+1)*s.Grid.Width]
	attr := int64(-1)
	for _, c := range row {
		if c.Attr == attr {
			out += string(rune(c.Char))
			continue
		}
		out += cellText(c)
		attr = c.Attr
	}
	return out
}

// dumpText is what a screen is dumped to, by the words of the document.
func dumpText(s impl.Screen) string {
	var out strings.Builder
	tell := func(so bool, text string) {
		if so {
			out.WriteString(text)
		}
	}
	for y := range s.Grid.Rows {
		tell(true, rowBytes(s, y))
	}
	tell(true, "\x1b[3g")
	for x, stop := range s.Tabs {
		tell(stop, placeText(0, int64(x))+"\x1bH")
	}
	tell(true, fmt.Sprintf("\x1b[%d;%dr", s.Top+1, s.Bottom+1))
	tell(s.Origin, "\x1b[?6h"+placeText(s.Y-s.Top, s.X))
	tell(!s.Origin, placeText(s.Y, s.X))
	tell(s.Wrap, cellText(s.Grid.Cells[(s.Y+1)*s.Grid.Width-1]))
	tell(true, "\x1b"+attrTexts[s.Attr])
	letters := map[int64]string{1: "B", 2: "0", 3: "U"}
	tell(true, "\x1b("+letters[s.Sets[0]]+"\x1b)"+letters[s.Sets[1]])
	tell(s.Shift == 1, "\x0e")
	tell(s.Insert, "\x1b[4h")
	tell(!s.AutoWrap, "\x1b[?7l")
	return out.String()
}

// shownAlone is a screen without what a dump does not make again.
func shownAlone(s impl.Screen) impl.Screen {
	s.Grid.Back, s.KeptY, s.KeptX, s.KeptAttr, s.Bells = nil, 0, 0, 0, 0
	return s
}

// wantMadeAgain asks that a dump is as the document says, and makes that screen again, from nothing, in pieces of each of those sizes.
func wantMadeAgain(t *testing.T, s impl.Screen, sizes ...int) {
	t.Helper()
	r := impl.DumpScreen(s)
	if want := dumpText(s); !onlyBytes(r, want) {
		t.Fatalf("DumpScreen(%v) = %d, %q, want %q", s, r.Code, r.Bytes, want)
	}
	for _, size := range append(sizes, 2000) {
		v := impl.NewVt(s.Grid.Rows, s.Grid.Width)
		for piece := range slices.Chunk(r.Bytes, size) {
			v = impl.WriteVt(v.Vt, piece)
		}
		again := v.Vt.Screen
		if v.Code != impl.OK || !impl.SameShown(s, again) || !sameScreen(shownAlone(s), shownAlone(again)) || !impl.SameParsers(v.Vt.Parser, impl.Parser{}) || v.Vt.Decoder != (impl.Decoder{}) {
			t.Fatalf("%q of %v, in pieces of %d, makes %v", r.Bytes, s, size, v)
		}
	}
}

// wantRow asks that a row that is dumped is that row: on an empty screen, where all others stay blank, and on one with other cells, where they stay.
func wantRow(t *testing.T, s impl.Screen, y int64) {
	t.Helper()
	r := impl.RowBytes(s, y)
	if want := rowBytes(s, y); !onlyBytes(r, want) {
		t.Fatalf("row %d of %v = %d, %q, want %q", y, s, r.Code, r.Bytes, want)
	}
	for _, on := range []impl.Screen{emptyScreen(s.Grid.Rows, s.Grid.Width), screenOfSize(s.Grid.Rows, s.Grid.Width, 0)} {
		want := slices.Clone(on.Grid.Cells)
		copy(want[y*s.Grid.Width:], s.Grid.Cells[y*s.Grid.Width:(y+1)*s.Grid.Width])
		v := impl.WriteVt(impl.Vt{Screen: on}, r.Bytes)
		if v.Code != impl.OK || !slices.Equal(v.Vt.Screen.Grid.Cells, want) || len(v.Vt.Screen.Grid.Back) > 0 {
			t.Fatalf("row %d of %v, %q, makes %v of %v", y, s, r.Bytes, v, on)
		}
	}
}

// withCells is a screen with its cells one behind the other from that list, over and over.
func withCells(s impl.Screen, cells ...impl.Cell) impl.Screen {
	s.Grid.Cells = slices.Clone(s.Grid.Cells)
	for i := range s.Grid.Cells {
		s.Grid.Cells[i] = cells[i%len(cells)]
	}
	return s
}

func TestAttrBytes(t *testing.T) {
	if len(attrTexts) != 32 {
		t.Fatalf("%d attributes", len(attrTexts))
	}
	for attr, want := range attrTexts {
		r := impl.AttrBytes(int64(attr))
		if !onlyBytes(r, "\x1b"+want) {
			t.Errorf("AttrBytes(%d) = %d, %q, want %q", attr, r.Code, r.Bytes, want)
		}
		// Whatever was ahead, it is that attribute then.
		for ahead := range attrTexts {
			s := emptyScreen(1, 2)
			s.Attr = int64(ahead)
			if v := impl.WriteVt(impl.Vt{Screen: s}, r.Bytes); v.Code != impl.OK || v.Vt.Screen.Attr != int64(attr) {
				t.Errorf("%q on %d makes %d", r.Bytes, ahead, v.Vt.Screen.Attr)
			}
		}
	}
	for _, attr := range noAttrs {
		if r := impl.AttrBytes(attr); !onlyBytesCode(r, impl.ErrRange) {
			t.Errorf("AttrBytes(%d) = %v", attr, r)
		}
	}
}

func TestRowBytesByHand(t *testing.T) {
	for _, x := range []struct {
		rows, width int64
		text        string
		y           int64
		want        string
	}{
		{1, 2, "", 0, "\x1b[1;1H\x1b[0;30m  "},
		{1, 2, "ab", 0, "\x1b[1;1H\x1b[0;30mab"},
		{1, 4, "\u00e4\u20ac\uffffz", 0, "\x1b[1;1H\x1b[0;30m\u00e4\u20ac\uffffz"},
		{3, 5, "ab\x1b[31;1mcde", 0, "\x1b[1;1H\x1b[0;30mab\x1b[0;31;1mcde"},
		{3, 5, "ab\x1b[31;1mcdefg", 1, "\x1b[2;1H\x1b[0;31;1mfg\x1b[0;30m   "},
		{3, 5, "ab\x1b[31;1mcdefg", 2, "\x1b[3;1H\x1b[0;30m     "},
		{2, 4, "a\x1b[7mb\x1b[27mc\x1b[7md", 0, "\x1b[1;1H\x1b[0;30ma\x1b[0;30;7mb\x1b[0;30mc\x1b[0;30;7md"},
		{2, 4, "a\x1b[7mb\x1b[27mc\x1b[7md", 1, "\x1b[2;1H\x1b[0;30m    "},
		{2, 4, "\x1b[37;7m\x1b[J", 1, "\x1b[2;1H\x1b[0;37;7m    "},
		// The last attribute of a row is told again at the first cell of the next one.
		{2, 2, "\x1b[32mabcd", 0, "\x1b[1;1H\x1b[0;32mab"},
		{2, 2, "\x1b[32mabcd", 1, "\x1b[2;1H\x1b[0;32mcd"},
		// What turns characters, and where one is, is no part of a row.
		{2, 4, "\x1b(0q\x1b[4h\x1b[?7l\x1b[2;2Ha\x1b[33m", 0, "\x1b[1;1H\x1b[0;30m\u2510   "},
		{6, 12, "\x1b[6;12H\x1b[1m~", 5, "\x1b[6;1H\x1b[0;30m           \x1b[0;30;1m~"},
		{6, 12, "\x1b[5;10H\x1b[35m~", 4, "\x1b[5;1H\x1b[0;30m         \x1b[0;35m~\x1b[0;30m  "},
	} {
		s := impl.WriteVt(emptyVt(x.rows, x.width), []byte(x.text)).Vt.Screen
		if r := impl.RowBytes(s, x.y); !onlyBytes(r, x.want) {
			t.Errorf("row %d of %q = %d, %q, want %q", x.y, x.text, r.Code, r.Bytes, x.want)
		}
		wantRow(t, s, x.y)
	}
}

// Cells of one attribute, of two that alternate, of each, and with characters of every length.
func TestRowBytesOfCells(t *testing.T) {
	for _, size := range [][2]int64{{1, 2}, {1, 12}, {2, 5}, {3, 11}, {6, 12}} {
		s := emptyScreen(size[0], size[1])
		for y := range size[0] {
			for attr := range int64(32) {
				other := (attr*5 + 9) % 32
				wantRow(t, withCells(s, cell('a', attr)), y)
				wantRow(t, withCells(s, cell('a', attr), cell('b', other)), y)
				wantRow(t, withCells(s, blank(attr), blank(attr), cell('a', attr), cell(228, other)), y)
			}
			for shift := range 32 {
				var cells []impl.Cell
				for i := range 32 {
					cells = append(cells, cell(shownEdges[i%len(shownEdges)], int64(i+shift)%32))
				}
				wantRow(t, withCells(s, cells...), y)
			}
			for _, c := range shownEdges {
				wantRow(t, withCells(s, cell(c, 3)), y)
				wantRow(t, withCells(s, cell('x', 3), cell(c, 3), cell(c, 4)), y)
			}
		}
	}
}

func TestRowBytesEverywhere(t *testing.T) {
	for _, s := range fewScreens(3) {
		for y := range s.Grid.Rows {
			wantRow(t, s, y)
		}
		for _, y := range append([]int64{-2, -1, s.Grid.Rows, s.Grid.Rows + 1, 99}, bigNumbers...) {
			if r := impl.RowBytes(s, y); !onlyBytesCode(r, impl.ErrRange) {
				t.Fatalf("row %d of %v is %v", y, s, r)
			}
		}
	}
}

func TestDumpScreenByHand(t *testing.T) {
	const rows23, tail = "\x1b[1;1H\x1b[0;30m   \x1b[2;1H\x1b[0;30m   \x1b[3g", "\x1b[0;30m\x1b(B\x1b)B"
	for _, x := range []struct {
		rows, width int64
		text, want  string
	}{
		{2, 3, "", rows23 + "\x1b[1;2r\x1b[1;1H" + tail},
		{2, 3, "\x1b[2;3H", rows23 + "\x1b[1;2r\x1b[2;3H" + tail},
		{2, 3, "\x1bH\x1b[3G\x1bH", rows23 + "\x1b[1;1H\x1bH\x1b[1;3H\x1bH\x1b[1;2r\x1b[1;3H" + tail},
		{2, 3, "\x1b[34;7m", rows23 + "\x1b[1;2r\x1b[1;1H\x1b[0;34;7m\x1b(B\x1b)B"},
		{2, 3, "\x1b(0", rows23 + "\x1b[1;2r\x1b[1;1H\x1b[0;30m\x1b(0\x1b)B"},
		{2, 3, "\x1b)U\x0e", rows23 + "\x1b[1;2r\x1b[1;1H\x1b[0;30m\x1b(B\x1b)U\x0e"},
		{2, 3, "\x1b(U\x1b)0\x0e\x0f", rows23 + "\x1b[1;2r\x1b[1;1H\x1b[0;30m\x1b(U\x1b)0"},
		{2, 3, "\x1b[4h", rows23 + "\x1b[1;2r\x1b[1;1H" + tail + "\x1b[4h"},
		{2, 3, "\x1b[?7l", rows23 + "\x1b[1;2r\x1b[1;1H" + tail + "\x1b[?7l"},
		{2, 3, "\x1b[?6h\x0e\x1b[4h\x1b[?7l", rows23 + "\x1b[1;2r\x1b[?6h\x1b[1;1H" + tail + "\x0e\x1b[4h\x1b[?7l"},
		{1, 2, "", "\x1b[1;1H\x1b[0;30m  \x1b[3g\x1b[1;1r\x1b[1;1H" + tail},
		{1, 2, "ab", "\x1b[1;1H\x1b[0;30mab\x1b[3g\x1b[1;1r\x1b[1;2H\x1b[0;30mb" + tail},
		{1, 2, "ab\b", "\x1b[1;1H\x1b[0;30mab\x1b[3g\x1b[1;1r\x1b[1;1H" + tail},
		{1, 2, "a\x1b[31m\u20ac\x1b[1m", "\x1b[1;1H\x1b[0;30ma\x1b[0;31m\u20ac\x1b[3g\x1b[1;1r\x1b[1;2H\x1b[0;31m\u20ac\x1b[0;31;1m\x1b(B\x1b)B"},
		{1, 9, "\t", "\x1b[1;1H\x1b[0;30m         \x1b[3g\x1b[1;9H\x1bH\x1b[1;1r\x1b[1;9H" + tail},
		// What was kept, bells, and what left at the top are nothing of a dump.
		{1, 2, "\x1b7\a\na\x1b7\b", "\x1b[1;1H\x1b[0;30ma \x1b[3g\x1b[1;1r\x1b[1;1H" + tail},
		{3, 2, "\x1b[2;3r\x1b[?6hab", "\x1b[1;1H\x1b[0;30m  \x1b[2;1H\x1b[0;30mab\x1b[3;1H\x1b[0;30m  \x1b[3g\x1b[2;3r\x1b[?6h\x1b[1;2H\x1b[0;30mb" + tail},
		{3, 2, "\x1b[2;3r\x1b[?6h\x1b[2Ha", "\x1b[1;1H\x1b[0;30m  \x1b[2;1H\x1b[0;30m  \x1b[3;1H\x1b[0;30ma \x1b[3g\x1b[2;3r\x1b[?6h\x1b[2;2H" + tail},
		{3, 2, "\x1b[2;3r\x1b[2Ha", "\x1b[1;1H\x1b[0;30m  \x1b[2;1H\x1b[0;30ma \x1b[3;1H\x1b[0;30m  \x1b[3g\x1b[2;3r\x1b[2;2H" + tail},
		// All at once: a region, Origin, the last column that waits, another attribute behind it, a table, Shift, Insert.
		{3, 5, "ab\x1b[31;1mcde\x1b[2;3r\x1b[?6h\x1b[2;5Hx\x1b)0\x0e\x1b[4h\x1b[7m", "\x1b[1;1H\x1b[0;30mab\x1b[0;31;1mcde\x1b[2;1H\x1b[0;30m     \x1b[3;1H\x1b[0;30m    \x1b[0;31;1mx" +
			"\x1b[3g\x1b[2;3r\x1b[?6h\x1b[2;5H\x1b[0;31;1mx\x1b[0;31;1;7m\x1b(B\x1b)0\x0e\x1b[4h"},
	} {
		s := impl.WriteVt(emptyVt(x.rows, x.width), []byte(x.text)).Vt.Screen
		if r := impl.DumpScreen(s); !onlyBytes(r, x.want) {
			t.Errorf("%q on %d, %d is dumped to %d, %q, want %q", x.text, x.rows, x.width, r.Code, r.Bytes, x.want)
		}
		wantMadeAgain(t, s, 1, 2, 3)
	}
}

func TestNewScreensAreMadeAgain(t *testing.T) {
	for rows := int64(1); rows <= 6; rows++ {
		for width := int64(2); width <= 12; width++ {
			wantMadeAgain(t, impl.NewScreen(rows, width).Screen, 1)
			wantMadeAgain(t, screenOfSize(rows, width, 5), 7)
		}
	}
}

// Promise 8: what a screen is dumped to makes it again, from nothing.
func TestManyScreensAreMadeAgain(t *testing.T) {
	for i, s := range manyScreens() {
		sizes := []int{1 + i%5}
		if i%19 == 0 {
			sizes = []int{1, 2, 3, 64, 500}
		}
		wantMadeAgain(t, s, sizes...)
	}
}

// Every set of tab stops.
func TestTabStopsAreMadeAgain(t *testing.T) {
	for _, size := range [][2]int64{{1, 2}, {2, 3}, {3, 9}, {1, 12}} {
		for stops := range 1 << size[1] {
			s := emptyScreen(size[0], size[1])
			s.X = int64(stops) % size[1]
			for x := range s.Tabs {
				s.Tabs[x] = stops>>x&1 > 0
			}
			wantMadeAgain(t, s)
		}
	}
}

// Every region, with the place in every row that it may have there, with Origin and without.
func TestRegionsAreMadeAgain(t *testing.T) {
	for rows := int64(1); rows <= 6; rows++ {
		for top := range rows {
			for bottom := top; bottom < rows; bottom++ {
				for y := range rows {
					for flags := range 4 {
						s := screenOfSize(rows, 4, 0)
						s.Top, s.Bottom, s.Y, s.X = top, bottom, y, 3
						s.Origin, s.Wrap = flags&1 > 0, flags&2 > 0
						if impl.ScreenFault(s) == impl.OK {
							wantMadeAgain(t, s, 5)
						}
					}
				}
			}
		}
	}
}

// waitingScreens have Wrap, with a cell of each length and of some attributes in the last column.
func waitingScreens() []impl.Screen {
	var screens []impl.Screen
	for _, c := range append([]int64{'q', 'x'}, shownEdges...) {
		for attr := range int64(32) {
			for _, y := range []int64{0, 1, 2, 3} {
				s := screenOfSize(4, 3, attr%6)
				s.Y, s.X, s.Wrap, s.Attr = y, 2, true, attr*11%32
				s.Grid.Cells[y*3+2] = cell(c, attr)
				if attr%2 > 0 {
					s.Top, s.Bottom = 1, 2
				}
				s.Origin, s.Insert = attr%4 > 1 && s.Top <= y && y <= s.Bottom, attr%8 > 3
				s.Sets, s.Shift = []int64{1 + (attr+y)%3, 1 + (attr+y+c)%3}, attr/8%2
				screens = append(screens, s)
			}
		}
	}
	return screens
}

// The last column that waits is made to wait again, and its cell stays; the next character begins a row of its own.
func TestWaitingColumnIsMadeAgain(t *testing.T) {
	for _, s := range waitingScreens() {
		wantMadeAgain(t, s, 1)
		again := impl.WriteVt(emptyVt(4, 3), impl.DumpScreen(s).Bytes).Vt.Screen
		for _, text := range []string{"q", "\u20ac", "\b", "\n", "abcdefg"} {
			a, b := behind(t, s, text), behind(t, again, text)
			if !sameScreen(shownAlone(a), shownAlone(b)) {
				t.Fatalf("%q on %v is %v, on what was made again %v", text, s, a, b)
			}
		}
	}
}

// Each of Sets with each table, both of Shift, with and without Insert, AutoWrap and Wrap.
func TestHowIsMadeAgain(t *testing.T) {
	for first := int64(1); first <= 3; first++ {
		for second := int64(1); second <= 3; second++ {
			for flags := range int64(32) {
				s := withCells(emptyScreen(2, 4), cell('q', 1), cell('~', 2), cell(8364, 2), cell('a', 3))
				s.Sets, s.Shift, s.Insert, s.AutoWrap, s.X = []int64{first, second}, flags&1, flags&2 > 0, flags&4 > 0, 3
				s.Wrap, s.Attr = flags&8 > 0 && s.AutoWrap, flags
				s.Origin = flags&16 > 0
				wantMadeAgain(t, s, 1, 4)
			}
		}
	}
}

// Over screens that were drawn, from texts by hand and from long random writings, at whatever size.
func TestDrawnScreensAreMadeAgain(t *testing.T) {
	for _, text := range vtTexts {
		for _, size := range [][2]int64{{1, 2}, {2, 4}, {3, 7}, {6, 12}} {
			wantMadeAgain(t, impl.WriteVt(emptyVt(size[0], size[1]), []byte(text)).Vt.Screen, 1, 9)
		}
	}
	for i, v := range manyVts(29) {
		wantMadeAgain(t, impl.WriteVt(v.vt, []byte(vtTexts[i%len(vtTexts)])).Vt.Screen, 3)
	}
}

func TestRandomScreensAreMadeAgain(t *testing.T) {
	r := rand.New(rand.NewPCG(8, 7))
	waits, regions, origins := 0, 0, 0
	texts := []string{"\x18\x1b[2;3r", "\x18\x1b[1;2r", "\x18\x1b[2;5r", "\x18\x1b[3;4r\x1b[?6h", "\x18\x1b[r", "\x18\x1bH", "\x18\x1b[4h", "\x18\x1b[99Ca"}
	for range 300 {
		v := impl.NewVt(1+r.Int64N(6), 2+r.Int64N(11))
		for step := range 12 {
			v = impl.WriteVt(v.Vt, slices.Concat(vtStream(r, 20), []byte(texts[r.IntN(len(texts))]), vtStream(r, 10)))
			if step%4 == 3 {
				v = impl.ResizeVt(v.Vt, 1+r.Int64N(6), 2+r.Int64N(11))
			}
			s := v.Vt.Screen
			wantMadeAgain(t, s, 1+r.IntN(40))
			wantRow(t, s, r.Int64N(s.Grid.Rows))
			waits += int(codeIf(s.Wrap, 1))
			regions += int(codeIf(s.Bottom-s.Top+1 < s.Grid.Rows, 1))
			origins += int(codeIf(s.Origin, 1))
		}
	}
	if waits < 50 || regions < 50 || origins < 50 {
		t.Errorf("only %d with Wrap, %d with a region, %d with Origin", waits, regions, origins)
	}
}

// What was dumped and made again is dumped to the same.
func TestDumpOfWhatWasMadeAgain(t *testing.T) {
	for _, s := range fewScreens(17) {
		first := impl.DumpScreen(s)
		again := impl.WriteVt(emptyVt(s.Grid.Rows, s.Grid.Width), first.Bytes).Vt.Screen
		if second := impl.DumpScreen(again); !onlyBytes(second, string(first.Bytes)) {
			t.Fatalf("%q is dumped again to %q", first.Bytes, second.Bytes)
		}
	}
}
