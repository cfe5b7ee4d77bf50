package tests

import (
	"bytes"
	"math/rand/v2"
	"slices"
	"strings"
	"testing"

	"loop.example/g00523/impl"
)

// sameVt holds all of terminals against each other without the program's own SameVts.
func sameVt(a, b impl.Vt) bool {
	return a.Decoder == b.Decoder && parserAll(a.Parser) == parserAll(b.Parser) && sameScreen(a.Screen, b.Screen)
}

// rightVt tells whether an answer is that terminal, without a code or a fault.
func rightVt(r impl.VtResult, want impl.Vt) bool {
	return r.Code == impl.OK && sameVt(r.Vt, want) && impl.VtFault(r.Vt) == impl.OK
}

// onlyVtCode tells whether an answer has that code and nothing beside it.
func onlyVtCode(r impl.VtResult, code int64) bool {
	return r.Code == code && sameVt(r.Vt, impl.Vt{})
}

// emptyVt is made without the program's own NewVt.
func emptyVt(rows, width int64) impl.Vt {
	return impl.Vt{Screen: emptyScreen(rows, width)}
}

// begunVt is a terminal without a fault, and bytes that lead its decoder there from nothing.
type begunVt struct {
	vt    impl.Vt
	bytes []byte
}

// manyVts have some of the screens, with every parser and a decoder of each kind among them.
func manyVts(step int) []begunVt {
	decoders, parsers := allWaiting(), goodParsers()
	var list []begunVt
	for i, s := range fewScreens(step) {
		w := decoders[0]
		if i%3 > 0 {
			w = decoders[i*29%len(decoders)]
		}
		list = append(list, begunVt{impl.Vt{Decoder: w.decoder, Parser: parsers[i*5%len(parsers)], Screen: s}, w.bytes})
	}
	for i, p := range parsers {
		w := decoders[i*7%60]
		list = append(list, begunVt{impl.Vt{Decoder: w.decoder, Parser: p, Screen: screenOfSize(2, 4, 1)}, w.bytes})
	}
	return list
}

// modelledVt is the terminal behind some bytes, by the words of the document: without the program's decoder, parser and screen.
func modelledVt(v begunVt, data []byte) impl.Vt {
	chars, rest := told(slices.Concat(v.bytes, data))
	then := v.vt
	then.Decoder = decoderBehind(rest)
	for _, c := range chars {
		var a impl.Action
		a, then.Parser = stepped(then.Parser, c)
		then.Screen = modelled(then.Screen, a)
	}
	return then
}

// steppedVt is the terminal behind some bytes, byte by byte by the functions of the chapters ahead.
func steppedVt(t *testing.T, v impl.Vt, data []byte) impl.Vt {
	t.Helper()
	for _, b := range data {
		d := impl.StepDecoder(v.Decoder, b)
		for _, c := range d.Chars {
			p := impl.StepParser(v.Parser, c)
			s := impl.DoAction(v.Screen, p.Action)
			if d.Code != impl.OK || p.Code != impl.OK || s.Code != impl.OK {
				t.Fatalf("byte %d on %v has the codes %d, %d, %d", b, v, d.Code, p.Code, s.Code)
			}
			v.Parser, v.Screen = p.Parser, s.Screen
		}
		v.Decoder = d.Decoder
	}
	return v
}

// vtTexts have characters of one, two and three bytes, broken ones, controls, escapes, and sequences with numbers.
var vtTexts = []string{
	"",
	"a",
	"abcdefghijklmnopqrstuvwxyz",
	"a\u00e4\u20ac\uffffz\u0080\u07ff\u0800\ud7ff\ue000",
	"\u00e4\u00f6\u00fc\u00df \u2500\u2502\u250c",
	"\xc3\xe2\x82\xc3a\xe2\x82b\xff\x80\xbf\xc0\x80\xc1\xbf",
	"\xe0\x80\x80\xe0\x9f\xbf\xed\xa0\x80\xed\xbf\xbf\xf0\x9f\x98\x80\xf8\xfe",
	"\xe2\xe2\x82\xe2\x82\xac\xc3\xc3\xa4\x80",
	"ab\r\ncd\te\bf\v\f\ag\x0eh\x0fi\x00j\x1fk\x7fl",
	"\x1b7abc\x1b8d\x1bDe\x1bEf\x1bHg\x1bMh\x1bZ\x1b~\x1b \x1b\u00e4i\x1bcj",
	"\x1b(0qx\x1b)Uab\x0eq\x0fq\x1b(B\x1b)Bq\x0eq\x1b(\u20ac\x1b)\nB",
	"\x1b[2;3Hx\x1b[1;31my\x1b[0;7mz\x1b[27;39m\x1b[J\x1b[1K\x1b[2X\x1b[L\x1b[M\x1b[@\x1b[P",
	"\x1b[1;2ra\n\n\nb\x1bM\x1bM\x1b[S\x1b[T\x1b[r\x1b[s\x1b[9;9Hc\x1b[ud",
	"\x1b[?6h\x1b[1;1Ha\x1b[?6l\x1b[?7labcdefghijklmnop\x1b[?7hq\x1b[4habc\x1b[4ld",
	"\x1b[99999;12;;;;;;7H.\x1b[?1;?6;7hx\x1b[1;\xc3\xa42mx\x1b[3\xe2\x82mx\x1b[\x18A\x1b[1\x1aA\x1b[1\x1b[2C!",
	"\x1b[1\n;\r2\x073\tHx\x1b\x1b\x1b[\x1b(\x1b[g\x1b[3g\tz",
	"lines\r\nof\r\nwords\r\nthat\r\nscroll\r\naway\r\nupwards\r\n",
	"ends in a character \xe2\x82",
	"ends in a character \xc3",
	"ends in an escape\x1b",
	"ends in a set\x1b(",
	"ends in a sequence\x1b[?12;34",
	"ends in both\x1b[5;\xe2",
}

// vtPieces are what a stream is mixed of.
var vtPieces = []string{
	"a", "Z", "~", " ", "q", "7", "\u00e4", "\u20ac", "\uffff", "\u0080", "\xc3", "\xe2", "\xe2\x82", "\x80", "\xa4", "\xbf", "\xff", "\xc0", "\xe0\x80\x80", "\xed\xa0\x80",
	"\n", "\n", "\r", "\t", "\b", "\a", "\x00", "\x0e", "\x0f", "\x18", "\x1a", "\x7f", "\x1b", "\x1b", "\x1b[", "\x1b[", "\x1b(", "\x1b)", "\x1b[?", "[", ";", ";", "?", "1", "2", "3", "4", "6", "9", "0", "B", "U",
	"A", "C", "D", "H", "h", "l", "m", "r", "J", "K", "L", "M", "S", "T", "P", "@", "X", "g", "s", "u", "\x1bM", "\x1b7", "\x1b8", "\x1b[2;3H", "\x1b[?7h", "\x1b[?6h", "\x1b[1;33m", "\x1b[r", "\x1bc", "word",
}

func vtStream(r *rand.Rand, pieces int) []byte {
	var data []byte
	for range pieces {
		data = append(data, vtPieces[r.IntN(len(vtPieces))]...)
	}
	return data
}

func TestWriteVtByHand(t *testing.T) {
	waits := func(left, low, value int64) impl.Decoder { return impl.Decoder{Left: left, Low: low, Value: value} }
	for _, x := range []struct {
		text, want, parser string
		decoder            impl.Decoder
	}{
		{"", "..../.... 0,0", "text", impl.Decoder{}},
		{"ab", "ab../.... 0,2", "text", impl.Decoder{}},
		{"abcd", "abcd/.... 0,3 wrap", "text", impl.Decoder{}},
		{"abcde\u20ac", "abcd/e\u20ac.. 1,2", "text", impl.Decoder{}},
		{"\u00e4\u20acz", "\u00e4\u20acz./.... 0,3", "text", impl.Decoder{}},
		{"a\xc3", "a.../.... 0,1", "text", waits(1, 128, 3)},
		{"a\xe2", "a.../.... 0,1", "text", waits(2, 2048, 2)},
		{"a\xe2\x82", "a.../.... 0,1", "text", waits(1, 2048, 130)},
		{"\xc3a", "\ufffda../.... 0,2", "text", impl.Decoder{}},
		{"\xe2\x82\xc3\xa4", "\ufffd\u00e4../.... 0,2", "text", impl.Decoder{}},
		{"\xe2\xff", "\ufffd\ufffd../.... 0,2", "text", impl.Decoder{}},
		{"\xe0\x80\x80\xed\xa0\x80a", "\ufffd\ufffda./.... 0,3", "text", impl.Decoder{}},
		{"\x80\xc0", "\ufffd\ufffd../.... 0,2", "text", impl.Decoder{}},
		{"a\r\nb\x7fc", "a.../bc.. 1,2", "text", impl.Decoder{}},
		{"a\n\n\nb", "a.../....|..../.b.. 1,2", "text", impl.Decoder{}},
		{"a\x1b", "a.../.... 0,1", "escape", impl.Decoder{}},
		{"a\x1b)", "a.../.... 0,1", "set 2", impl.Decoder{}},
		{"a\x1b[?7;12", "a.../.... 0,1", "params private 7 12", impl.Decoder{}},
		{"\x1b[2;3Hx", "..../..x. 1,3", "text", impl.Decoder{}},
		{"\x1b[2;3\r\nHx", "..../..x. 1,3", "text", impl.Decoder{}},
		// A character that is none of a sequence ends it, and so does a broken one.
		{"\x1b[2;3\u00e4Hx", "Hx../.... 0,2", "text", impl.Decoder{}},
		{"\x1b[2;3\xe2Hx", "Hx../.... 0,2", "text", impl.Decoder{}},
		{"\x1b[2;3\xe2", "..../.... 0,0", "params 2 3", waits(2, 2048, 2)},
		{"\x1b\u20acx", "x.../.... 0,1", "text", impl.Decoder{}},
		{"\x1b\xc3x", "x.../.... 0,1", "text", impl.Decoder{}},
		{"\x1b(\u20acx", "x.../.... 0,1", "text", impl.Decoder{}},
		// What begins anew breaks a character off, which is shown ahead of it.
		{"\xc3\x1b[Cx", "\ufffd.x./.... 0,3", "text", impl.Decoder{}},
		{"\xc3\x18x", "\ufffdx../.... 0,2", "text", impl.Decoder{}},
		{"\x1b[3\x18mx", "mx../.... 0,2", "text", impl.Decoder{}},
		{"\x1b[3\x1b[Cx", ".x../.... 0,2", "text", impl.Decoder{}},
		{"\x1b(0q\x1b(Bq", "\u2510q../.... 0,2", "text", impl.Decoder{}},
		{"\x1b)Ua\x0ea\x0fa", "a\uf061a./.... 0,3", "text", impl.Decoder{}},
		{"ab\x1bcx", "x.../.... 0,1", "text", impl.Decoder{}},
	} {
		r := impl.WriteVt(emptyVt(2, 4), []byte(x.text))
		if got := shownText(r.Vt.Screen); r.Code != impl.OK || got != x.want || parserAll(r.Vt.Parser) != parserAll(parserOf(x.parser)) || r.Vt.Decoder != x.decoder || impl.VtFault(r.Vt) != impl.OK {
			t.Errorf("%q is %s, %v, want %s, %s, %v", x.text, got, r, x.want, x.parser, x.decoder)
		}
	}
}

// From every terminal, every text does what the document says, and what the functions of the chapters ahead do byte by byte.
func TestWriteVtEverywhere(t *testing.T) {
	for i, v := range manyVts(23) {
		for j, text := range vtTexts {
			r := impl.WriteVt(v.vt, []byte(text))
			if want := modelledVt(v, []byte(text)); !rightVt(r, want) {
				t.Fatalf("%q on %v = %v, want %v", text, v.vt, r, want)
			}
			if (i+j)%7 == 0 && !rightVt(r, steppedVt(t, v.vt, []byte(text))) {
				t.Fatalf("%q on %v = %v, byte by byte another", text, v.vt, r)
			}
		}
	}
}

// Every byte alone on terminals with each parser and each kind of decoder.
func TestWriteVtEveryByte(t *testing.T) {
	for _, v := range manyVts(101) {
		for b := range 256 {
			data := []byte{byte(b)}
			if r, want := impl.WriteVt(v.vt, data), modelledVt(v, data); !rightVt(r, want) {
				t.Fatalf("byte %d on %v = %v, want %v", b, v.vt, r, want)
			}
		}
	}
}

// wantVtPieces asks that what is written in two parts, cut at each place, or into single bytes, is what is written at once.
func wantVtPieces(t *testing.T, v impl.Vt, data []byte, step int) {
	t.Helper()
	whole := impl.WriteVt(v, data)
	if !rightVt(whole, whole.Vt) {
		t.Fatalf("%q on %v = %v", data, v, whole)
	}
	for cut := 0; cut <= len(data); cut += step {
		first := impl.WriteVt(v, data[:cut])
		second := impl.WriteVt(first.Vt, data[cut:])
		if !rightVt(first, first.Vt) || !rightVt(second, whole.Vt) || !impl.SameVts(second.Vt, whole.Vt) {
			t.Fatalf("%q on %v, cut at %d, = %v, want %v", data, v, cut, second, whole)
		}
	}
	wantVtChunks(t, v, data, 1, whole.Vt)
}

func wantVtChunks(t *testing.T, v impl.Vt, data []byte, size int, want impl.Vt) {
	t.Helper()
	r := impl.VtResult{Vt: v}
	for piece := range slices.Chunk(data, size) {
		r = impl.WriteVt(r.Vt, piece)
	}
	if !rightVt(r, want) || !impl.SameVts(r.Vt, want) {
		t.Fatalf("%q on %v, in pieces of %d, = %v, want %v", data, v, size, r, want)
	}
}

// Promise 7: what is written in pieces is what is written at once.
func TestWrittenInPieces(t *testing.T) {
	for _, text := range vtTexts {
		for _, v := range append(manyVts(211), begunVt{vt: emptyVt(1, 2)}, begunVt{vt: emptyVt(6, 12)}) {
			wantVtPieces(t, v.vt, []byte(text), 1)
		}
	}
	wantVtPieces(t, emptyVt(3, 12), []byte(strings.Join(vtTexts, "")), 1)
}

func TestStreamsWrittenInPieces(t *testing.T) {
	r := rand.New(rand.NewPCG(7, 6))
	vts := manyVts(37)
	for round := range 250 {
		v, data := vts[round%len(vts)], vtStream(r, 60)
		whole := impl.WriteVt(v.vt, data)
		if want := modelledVt(v, data); !rightVt(whole, want) {
			t.Fatalf("%q on %v = %v, want %v", data, v.vt, whole, want)
		}
		wantVtPieces(t, v.vt, data, 3)
		for size := 2; size <= 9; size++ {
			wantVtChunks(t, v.vt, data, size, whole.Vt)
		}
	}
}

// More than may be written at once is what its pieces make, wherever they are cut.
func TestLongStreamWrittenInPieces(t *testing.T) {
	r := rand.New(rand.NewPCG(2, 1))
	v := begunVt{vt: emptyVt(4, 10)}
	data := vtStream(r, 2600)
	if len(data) <= 2000 {
		t.Fatalf("only %d bytes", len(data))
	}
	want := modelledVt(v, data)
	for _, size := range []int{1, 7, 64, 999, 2000} {
		wantVtChunks(t, v.vt, data, size, want)
	}
	wantVtPieces(t, v.vt, data[:2000], 61)
}

func TestWriteVtMany(t *testing.T) {
	for _, v := range append(manyVts(301), begunVt{vt: emptyVt(2, 2)}) {
		for _, piece := range []string{"a", "\a", "\x1b", "\xff", "\u00e4", "\x1b[C\n"} {
			data := bytes.Repeat([]byte(piece), 2001)
			for _, n := range []int{1999, 2000} {
				if r, want := impl.WriteVt(v.vt, data[:n]), modelledVt(v, data[:n]); !rightVt(r, want) {
					t.Fatalf("%d bytes of %q on %v = %v, want %v", n, piece, v.vt, r, want)
				}
			}
			for _, n := range []int{2001, len(data)} {
				if r := impl.WriteVt(v.vt, data[:n]); !onlyVtCode(r, impl.ErrMany) {
					t.Fatalf("%d bytes of %q on %v = %v, want ErrMany", n, piece, v.vt, r)
				}
			}
		}
	}
	if r := impl.WriteVt(emptyVt(1, 2), bytes.Repeat([]byte{7}, 2000)); r.Vt.Screen.Bells != 999 {
		t.Errorf("2000 bells are %d", r.Vt.Screen.Bells)
	}
	// One byte may tell two characters: what breaks one off is heard as well.
	if r := impl.WriteVt(emptyVt(1, 12), []byte("\xc3\xff\xc3\xff\xc3\xff")); shownText(r.Vt.Screen) != "\ufffd\ufffd\ufffd\ufffd\ufffd\ufffd...... 0,6" {
		t.Errorf("broken characters are %s", shownText(r.Vt.Screen))
	}
}

func TestWriteNothing(t *testing.T) {
	for _, v := range manyVts(11) {
		for _, none := range [][]byte{nil, {}} {
			if r := impl.WriteVt(v.vt, none); !rightVt(r, v.vt) {
				t.Fatalf("nothing on %v = %v", v.vt, r)
			}
		}
	}
}

func TestNewVt(t *testing.T) {
	for rows := int64(1); rows <= 6; rows++ {
		for width := int64(2); width <= 12; width++ {
			if r := impl.NewVt(rows, width); !rightVt(r, emptyVt(rows, width)) {
				t.Errorf("NewVt(%d, %d) = %v", rows, width, r)
			}
		}
	}
	for _, size := range noSizes() {
		if r := impl.NewVt(size[0], size[1]); !onlyVtCode(r, impl.ErrRange) {
			t.Errorf("NewVt(%v) = %v", size, r)
		}
	}
}

// What was begun goes on on a screen of another size.
func TestResizeVtEverywhere(t *testing.T) {
	for _, v := range manyVts(47) {
		for rows := int64(1); rows <= 6; rows++ {
			for width := int64(2); width <= 12; width++ {
				want := v.vt
				want.Screen = resizedScreen(v.vt.Screen, rows, width)
				if r := impl.ResizeVt(v.vt, rows, width); !rightVt(r, want) {
					t.Fatalf("%v to %d, %d = %v, want %v", v.vt, rows, width, r, want)
				}
			}
		}
		for _, size := range noSizes() {
			if r := impl.ResizeVt(v.vt, size[0], size[1]); !onlyVtCode(r, impl.ErrRange) {
				t.Fatalf("%v to %v = %v", v.vt, size, r)
			}
		}
	}
}

func TestResizeVtByHand(t *testing.T) {
	for _, x := range []struct {
		ahead       string
		rows, width int64
		behind      string
		want        string
	}{
		{"ab\r\ncd\xe2\x82", 2, 4, "\xac", "ab../cd\u20ac. 1,3"},
		{"ab\r\ncd\xe2\x82", 1, 2, "\xac", "a\u20ac 0,1 wrap"},
		{"ab\r\ncd\xe2\x82", 3, 5, "\xac", "ab.../cd\u20ac../..... 1,3"},
		{"ab\xc3", 1, 3, "\xa4", "ab\u00e4 0,2 wrap"},
		// The broken character fills the row; the next one begins a row of its own.
		{"ab\xc3", 1, 3, "x", "ab\ufffd|x.. 0,1"},
		{"ab\x1b[2;", 1, 3, "4Hx", "abx 0,2 wrap"},
		{"ab\x1b[2;", 3, 5, "4Hx", "ab.../...x./..... 1,4"},
		{"ab\x1b", 3, 4, "Dx", "ab../..x./.... 1,3"},
		{"a\x1b(", 1, 3, "0q", "a\u2510. 0,2"},
		{"ab\x1b[2;\xe2", 1, 3, "\x82\xacx", "abx 0,2 wrap"},
		{"abcd", 2, 4, "e", "abce/.... 0,3 wrap"},
		{"abcd\xc3", 2, 6, "\xa4", "abc\u00e4../...... 0,4"},
	} {
		first := impl.WriteVt(emptyVt(2, 4), []byte(x.ahead))
		r := impl.WriteVt(impl.ResizeVt(first.Vt, x.rows, x.width).Vt, []byte(x.behind))
		if got := shownText(r.Vt.Screen); r.Code != impl.OK || got != x.want || impl.VtFault(r.Vt) != impl.OK {
			t.Errorf("%q, to %d, %d, %q is %s, want %s", x.ahead, x.rows, x.width, x.behind, got, x.want)
		}
	}
}

func TestVtText(t *testing.T) {
	for _, x := range []struct {
		rows, width int64
		text, want  string
	}{
		{1, 2, "", "  \n"},
		{1, 4, "abc", "abc \n"},
		{1, 2, "\u00e4\u20ac", "\u00e4\u20ac\n"},
		{2, 3, "a\u00e4\u20ac\uffffb", "a\u00e4\u20ac\n\uffffb \n"},
		{3, 4, "\x1b[31;7m\u00e4\x1b[3;2H\u20ac\xc3", "\u00e4   \n    \n \u20ac  \n"},
		{2, 2, "abcdef", "cd\nef\n"},
		{3, 2, "\x1b(0q\x1b(Bq\xff", "\u2510q\n\ufffd \n  \n"},
		{6, 12, "\x1b[6;12Hx", strings.Repeat(strings.Repeat(" ", 12)+"\n", 5) + strings.Repeat(" ", 11) + "x\n"},
	} {
		v := impl.WriteVt(emptyVt(x.rows, x.width), []byte(x.text)).Vt
		if r := impl.VtText(v); r != (impl.TextResult{Text: x.want}) {
			t.Errorf("%q on %d, %d is %v, want %q", x.text, x.rows, x.width, r, x.want)
		}
	}
	for _, v := range manyVts(3) {
		want := ""
		for row := range slices.Chunk(v.vt.Screen.Grid.Cells, int(v.vt.Screen.Grid.Width)) {
			for _, c := range row {
				want += string(rune(c.Char))
			}
			want += "\n"
		}
		if r := impl.VtText(v.vt); r != (impl.TextResult{Text: want}) {
			t.Fatalf("VtText(%v) = %v, want %q", v.vt, r, want)
		}
	}
}
