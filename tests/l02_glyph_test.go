package tests

import (
	"slices"
	"testing"

	"loop.example/g00523/impl"
)

// charEdges are numbers at which something begins or ends: a character, or what a table tells others for.
var charEdges = []int64{0, 1, 32, 33, 34, 96, 97, 98, 121, 122, 123, 125, 126, 127, 128, 255, 256, 55294, 55295, 57344, 57345, 65533, 65534, 65535}

// noChars are none, near the bounds of those that are, and far off.
var noChars = append([]int64{-65536, -97, -2, -1, 55296, 55297, 56320, 57342, 57343, 65536, 65537, 65536 + 97}, bigNumbers...)

// noGlyphs are none, near the bounds of those that are, and far off.
var noGlyphs = append([]int64{-256, -2, -1, 256, 257, 511, 512}, bigNumbers...)

func sameFont(a, b impl.Font) bool {
	return a.Fallback == b.Fallback && slices.Equal(a.Pairs, b.Pairs)
}

// onlyFontCode tells whether an answer has that code and nothing beside it.
func onlyFontCode(r impl.FontResult, code int64) bool {
	return r.Code == code && r.Font.Fallback == 0 && len(r.Font.Pairs) == 0
}

func pair(char, glyph int64) impl.Pair {
	return impl.Pair{Char: char, Glyph: glyph}
}

func fontOf(fallback int64, pairs ...impl.Pair) impl.Font {
	return impl.Font{Fallback: fallback, Pairs: pairs}
}

// fontOfMany has n pairs, of the characters 10, 20, 30 and so on; each third one has the same glyph.
func fontOfMany(n int) impl.Font {
	f := impl.Font{Fallback: 255}
	for i := range int64(n) {
		f.Pairs = append(f.Pairs, pair(10*i+10, i%3))
	}
	return f
}

// goodFonts are of all numbers of pairs, and with pairs at the edges.
func goodFonts() []impl.Font {
	fonts := []impl.Font{
		{}, {Pairs: []impl.Pair{}}, fontOf(255), fontOf(0, pair(0, 0)), fontOf(0, pair(65535, 255)),
		fontOf(9, pair(0, 255), pair(65535, 0)), fontOf(7, pair(97, 7), pair(98, 7)),
		fontOf(7, pair(55295, 8), pair(57344, 9)),
	}
	var edges impl.Font
	for i, c := range charEdges[4:] {
		edges.Pairs = append(edges.Pairs, pair(c, int64(i)))
	}
	fonts = append(fonts, edges)
	for n := range impl.MaxPairs + 1 {
		fonts = append(fonts, fontOfMany(n))
	}
	return fonts
}

// wrongFont is a font with the code that it has to be told.
type wrongFont struct {
	font impl.Font
	code int64
}

// wrongFonts have each code alone, and each with those that are asked behind it.
func wrongFonts() []wrongFont {
	many, twenty := fontOfMany(21), fontOfMany(20)
	manyWrong := fontOfMany(21)
	manyWrong.Pairs[0] = pair(-1, 256)
	manyAlike := fontOfMany(21)
	manyAlike.Pairs[1] = manyAlike.Pairs[0]
	lastWrong, lastAlike := fontOfMany(20), fontOfMany(20)
	lastWrong.Pairs[19].Glyph = 256
	lastAlike.Pairs[19].Char = lastAlike.Pairs[18].Char
	wrong := []wrongFont{
		{fontOf(256), impl.ErrRange},
		{fontOf(-1), impl.ErrRange},
		{impl.Font{Fallback: -1, Pairs: many.Pairs}, impl.ErrRange},
		{impl.Font{Fallback: 256, Pairs: manyWrong.Pairs}, impl.ErrRange},
		{impl.Font{Fallback: 256, Pairs: twenty.Pairs}, impl.ErrRange},
		{fontOf(256, pair(5, 1), pair(4, 1)), impl.ErrRange},
		{many, impl.ErrMany},
		{manyWrong, impl.ErrMany},
		{manyAlike, impl.ErrMany},
		{impl.Font{Pairs: make([]impl.Pair, 5000)}, impl.ErrMany},
		{lastWrong, impl.ErrRange},
		{lastAlike, impl.ErrForm},
		{fontOf(0, pair(5, 1), pair(5, 1)), impl.ErrForm},
		{fontOf(0, pair(5, 1), pair(5, 2)), impl.ErrForm},
		{fontOf(0, pair(5, 1), pair(4, 2)), impl.ErrForm},
		{fontOf(0, pair(0, 1), pair(0, 2)), impl.ErrForm},
		{fontOf(0, pair(1, 1), pair(3, 1), pair(2, 1)), impl.ErrForm},
		{fontOf(0, pair(1, 1), pair(3, 1), pair(1, 1)), impl.ErrForm},
		{fontOf(0, pair(2, 1), pair(1, 1), pair(3, 1)), impl.ErrForm},
		// One pair is asked both ahead of the next one, and its bounds ahead of its place.
		{fontOf(0, pair(5, 1), pair(4, 256)), impl.ErrRange},
		{fontOf(0, pair(5, 1), pair(-1, 1)), impl.ErrRange},
		{fontOf(0, pair(5, 1), pair(5, 1), pair(6, 256)), impl.ErrForm},
		{fontOf(0, pair(5, 1), pair(4, 1), pair(-1, 1)), impl.ErrForm},
		{fontOf(0, pair(5, 256), pair(4, 1)), impl.ErrRange},
		{fontOf(0, pair(65536, 1), pair(4, 1)), impl.ErrRange},
		{fontOf(0, pair(5, 1), pair(6, -1), pair(6, 1)), impl.ErrRange},
	}
	for _, n := range noChars {
		wrong = append(wrong, wrongFont{fontOf(0, pair(n, 1)), impl.ErrRange}, wrongFont{fontOf(0, pair(3, 1), pair(n, 1)), impl.ErrRange})
	}
	for _, n := range noGlyphs {
		wrong = append(wrong, wrongFont{fontOf(n), impl.ErrRange}, wrongFont{fontOf(0, pair(3, n)), impl.ErrRange}, wrongFont{fontOf(0, pair(3, 1), pair(4, n)), impl.ErrRange})
	}
	return wrong
}

func TestFontFault(t *testing.T) {
	for _, f := range goodFonts() {
		if code := impl.FontFault(f); code != impl.OK {
			t.Errorf("FontFault(%v) = %d, want 0", f, code)
		}
	}
	for _, x := range wrongFonts() {
		if code := impl.FontFault(x.font); code != x.code {
			t.Errorf("FontFault(%v) = %d, want %d", x.font, code, x.code)
		}
	}
}

func TestFontFaultBounds(t *testing.T) {
	for n := int64(-300); n <= 600; n++ {
		want := int64(impl.ErrRange)
		if n >= 0 && n <= 255 {
			want = impl.OK
		}
		for _, f := range []impl.Font{fontOf(n), fontOf(3, pair(65, n)), fontOf(3, pair(65, 2), pair(66, n))} {
			if code := impl.FontFault(f); code != want {
				t.Errorf("FontFault(%v) = %d, want %d", f, code, want)
			}
		}
	}
	for n := int64(-10); n <= 65546; n++ {
		want := int64(impl.ErrRange)
		if n >= 0 && n <= 65535 && !isSurrogate(n) {
			want = impl.OK
		}
		if code := impl.FontFault(fontOf(3, pair(n, 1))); code != want {
			t.Fatalf("FontFault with the character %d = %d, want %d", n, code, want)
		}
	}
}

// Two pairs of all edges: it is just those whose second character is greater that have no fault.
func TestFontFaultRises(t *testing.T) {
	for _, a := range charEdges {
		for _, b := range charEdges {
			want := int64(impl.OK)
			if a >= b {
				want = impl.ErrForm
			}
			if code := impl.FontFault(fontOf(1, pair(a, 2), pair(b, 2))); code != want {
				t.Errorf("FontFault of %d, %d = %d, want %d", a, b, code, want)
			}
		}
	}
}

// A wrong font is told ahead of all that is wrong beside it, and nothing is told with its code.
func TestFontFaultIsAskedFirst(t *testing.T) {
	for _, x := range wrongFonts() {
		for _, c := range []int64{-1, 3, 4, 5, 55296, 65536} {
			for _, g := range []int64{-1, 1, 256} {
				if r := impl.PutPair(x.font, pair(c, g)); !onlyFontCode(r, x.code) {
					t.Fatalf("PutPair(%v, %d, %d) = %v, want code %d", x.font, c, g, r, x.code)
				}
			}
			if r := impl.DropPair(x.font, c); !onlyFontCode(r, x.code) {
				t.Fatalf("DropPair(%v, %d) = %v, want code %d", x.font, c, r, x.code)
			}
			if r := impl.GlyphOf(x.font, c); r != (impl.IntResult{Code: x.code}) {
				t.Fatalf("GlyphOf(%v, %d) = %v, want code %d", x.font, c, r, x.code)
			}
			if r := impl.CharsOf(x.font, c); r.Code != x.code || len(r.List) != 0 {
				t.Fatalf("CharsOf(%v, %d) = %v, want code %d", x.font, c, r, x.code)
			}
		}
	}
}

func TestPutPairByHand(t *testing.T) {
	three := fontOf(9, pair(10, 1), pair(20, 2), pair(30, 3))
	for _, x := range []struct {
		name string
		font impl.Font
		put  impl.Pair
		want impl.Font
	}{
		{"the first", impl.Font{}, pair(0, 0), fontOf(0, pair(0, 0))},
		{"the first of an empty list", impl.Font{Fallback: 3, Pairs: []impl.Pair{}}, pair(65535, 255), fontOf(3, pair(65535, 255))},
		{"ahead", three, pair(9, 7), fontOf(9, pair(9, 7), pair(10, 1), pair(20, 2), pair(30, 3))},
		{"ahead of all", three, pair(0, 7), fontOf(9, pair(0, 7), pair(10, 1), pair(20, 2), pair(30, 3))},
		{"between", three, pair(11, 7), fontOf(9, pair(10, 1), pair(11, 7), pair(20, 2), pair(30, 3))},
		{"between the last", three, pair(29, 3), fontOf(9, pair(10, 1), pair(20, 2), pair(29, 3), pair(30, 3))},
		{"behind", three, pair(31, 0), fontOf(9, pair(10, 1), pair(20, 2), pair(30, 3), pair(31, 0))},
		{"behind all", three, pair(65535, 255), fontOf(9, pair(10, 1), pair(20, 2), pair(30, 3), pair(65535, 255))},
		{"instead of the first", three, pair(10, 0), fontOf(9, pair(10, 0), pair(20, 2), pair(30, 3))},
		{"instead of the second", three, pair(20, 255), fontOf(9, pair(10, 1), pair(20, 255), pair(30, 3))},
		{"instead of the last", three, pair(30, 1), fontOf(9, pair(10, 1), pair(20, 2), pair(30, 1))},
		{"the same again", three, pair(20, 2), three},
		{"the fallback itself", three, pair(40, 9), fontOf(9, pair(10, 1), pair(20, 2), pair(30, 3), pair(40, 9))},
	} {
		if r := impl.PutPair(x.font, x.put); r.Code != impl.OK || !sameFont(r.Font, x.want) {
			t.Errorf("%s: PutPair = %v, want %v", x.name, r, x.want)
		}
	}
}

// putInto is a font with a pair put, worked out by places: all below, the pair, all above.
func putInto(f impl.Font, p impl.Pair) impl.Font {
	out := impl.Font{Fallback: f.Fallback}
	at := 0
	for at < len(f.Pairs) && f.Pairs[at].Char < p.Char {
		at++
	}
	end := at
	if end < len(f.Pairs) && f.Pairs[end].Char == p.Char {
		end++
	}
	out.Pairs = slices.Concat(f.Pairs[:at], []impl.Pair{p}, f.Pairs[end:])
	return out
}

// charsNear are the characters of a font, their neighbours, and the edges.
func charsNear(f impl.Font) []int64 {
	near := slices.Clone(charEdges)
	for _, p := range f.Pairs {
		for _, c := range []int64{p.Char - 1, p.Char, p.Char + 1} {
			if c >= 0 && c <= 65535 && !isSurrogate(c) {
				near = append(near, c)
			}
		}
	}
	slices.Sort(near)
	return slices.Compact(near)
}

func TestPutPairEverywhere(t *testing.T) {
	for _, f := range goodFonts() {
		for _, c := range charsNear(f) {
			for _, g := range []int64{0, 1, 2, 128, 254, 255} {
				r, want := impl.PutPair(f, pair(c, g)), putInto(f, pair(c, g))
				if len(want.Pairs) > 20 {
					if !onlyFontCode(r, impl.ErrMany) {
						t.Fatalf("PutPair(%v, %d, %d) = %v, want ErrMany", f, c, g, r)
					}
					continue
				}
				if r.Code != impl.OK || !sameFont(r.Font, want) || impl.FontFault(r.Font) != impl.OK {
					t.Fatalf("PutPair(%v, %d, %d) = %v, want %v", f, c, g, r, want)
				}
			}
		}
	}
}

func TestPutPairWrong(t *testing.T) {
	for _, f := range goodFonts() {
		for _, c := range noChars {
			for _, g := range []int64{-1, 0, 255, 256} {
				if r := impl.PutPair(f, pair(c, g)); !onlyFontCode(r, impl.ErrRange) {
					t.Fatalf("PutPair(%v, %d, %d) = %v, want ErrRange", f, c, g, r)
				}
			}
		}
		for _, g := range noGlyphs {
			for _, c := range []int64{0, 10, 11, 200, 65535} {
				if r := impl.PutPair(f, pair(c, g)); !onlyFontCode(r, impl.ErrRange) {
					t.Fatalf("PutPair(%v, %d, %d) = %v, want ErrRange", f, c, g, r)
				}
			}
		}
	}
}

// The twentieth pair has room, the next one none, but a full font still takes one instead of another.
func TestPutPairMany(t *testing.T) {
	if impl.MaxPairs != 20 {
		t.Fatal(impl.MaxPairs)
	}
	for _, c := range []int64{0, 5, 105, 195, 1000, 65535} {
		r := impl.PutPair(fontOfMany(19), pair(c, 77))
		if r.Code != impl.OK || len(r.Font.Pairs) != 20 || !sameFont(r.Font, putInto(fontOfMany(19), pair(c, 77))) {
			t.Errorf("PutPair of %d to 19 pairs = %v", c, r)
		}
		if r := impl.PutPair(fontOfMany(20), pair(c, 77)); !onlyFontCode(r, impl.ErrMany) {
			t.Errorf("PutPair of %d to 20 pairs = %v, want ErrMany", c, r)
		}
	}
	for i := range 20 {
		c := int64(10*i + 10)
		r := impl.PutPair(fontOfMany(20), pair(c, 77))
		if r.Code != impl.OK || !sameFont(r.Font, putInto(fontOfMany(20), pair(c, 77))) {
			t.Errorf("PutPair of %d instead of another of 20 = %v", c, r)
		}
	}
}

// However the order in which pairs are put, the font is the same.
func TestPutPairInAnyOrder(t *testing.T) {
	want := fontOfMany(20)
	for step := 1; step < 20; step += 2 {
		if step == 5 || step == 15 {
			continue
		}
		f := impl.Font{Fallback: want.Fallback}
		for i := range 20 {
			f = impl.PutPair(f, want.Pairs[(i*step+7)%20]).Font
		}
		if !sameFont(f, want) {
			t.Errorf("with steps of %d: %v, want %v", step, f, want)
		}
	}
}

func TestDropPair(t *testing.T) {
	for _, f := range goodFonts() {
		there := map[int64]bool{}
		for i, p := range f.Pairs {
			there[p.Char] = true
			want := impl.Font{Fallback: f.Fallback, Pairs: slices.Concat(f.Pairs[:i], f.Pairs[i+1:])}
			r := impl.DropPair(f, p.Char)
			if r.Code != impl.OK || !sameFont(r.Font, want) || impl.FontFault(r.Font) != impl.OK {
				t.Fatalf("DropPair(%v, %d) = %v, want %v", f, p.Char, r, want)
			}
			if again := impl.DropPair(r.Font, p.Char); !onlyFontCode(again, impl.ErrNone) {
				t.Fatalf("DropPair(%v, %d) once more = %v, want ErrNone", r.Font, p.Char, again)
			}
		}
		for _, c := range slices.Concat(charsNear(f), noChars) {
			if r := impl.DropPair(f, c); !there[c] && !onlyFontCode(r, impl.ErrNone) {
				t.Fatalf("DropPair(%v, %d) = %v, want ErrNone", f, c, r)
			}
		}
	}
}

func TestDropPairByHand(t *testing.T) {
	three := fontOf(9, pair(10, 1), pair(20, 1), pair(30, 1))
	for _, x := range []struct {
		c    int64
		want impl.Font
	}{
		{10, fontOf(9, pair(20, 1), pair(30, 1))},
		{20, fontOf(9, pair(10, 1), pair(30, 1))},
		{30, fontOf(9, pair(10, 1), pair(20, 1))},
	} {
		if r := impl.DropPair(three, x.c); r.Code != impl.OK || !sameFont(r.Font, x.want) {
			t.Errorf("DropPair of %d = %v, want %v", x.c, r, x.want)
		}
	}
	for _, c := range []int64{0, 9, 11, 1, 31, 55296, -1, 65536} {
		if r := impl.DropPair(three, c); !onlyFontCode(r, impl.ErrNone) {
			t.Errorf("DropPair of %d = %v, want ErrNone", c, r)
		}
	}
	if r := impl.DropPair(impl.Font{}, 0); !onlyFontCode(r, impl.ErrNone) {
		t.Errorf("DropPair from nothing = %v, want ErrNone", r)
	}
}

func TestDropAllPairs(t *testing.T) {
	f := fontOfMany(20)
	for _, p := range fontOfMany(20).Pairs {
		f = impl.DropPair(f, p.Char).Font
	}
	if f.Fallback != 255 || len(f.Pairs) != 0 {
		t.Errorf("with all pairs dropped: %v", f)
	}
}

// glyphByPairs is what a character is drawn by, looked up pair by pair.
func glyphByPairs(f impl.Font, c int64) int64 {
	for _, p := range f.Pairs {
		if p.Char == c {
			return p.Glyph
		}
	}
	return f.Fallback
}

func TestGlyphOf(t *testing.T) {
	for _, f := range goodFonts() {
		for _, c := range charsNear(f) {
			if r := impl.GlyphOf(f, c); r != (impl.IntResult{Value: glyphByPairs(f, c)}) {
				t.Fatalf("GlyphOf(%v, %d) = %v, want %d", f, c, r, glyphByPairs(f, c))
			}
		}
		for _, c := range noChars {
			if r := impl.GlyphOf(f, c); r != (impl.IntResult{Code: impl.ErrRange}) {
				t.Fatalf("GlyphOf(%v, %d) = %v, want ErrRange", f, c, r)
			}
		}
	}
}

// Every number there is as a character: what is put tells its glyph, what is dropped the fallback, and all others stay.
func TestAllOthersStay(t *testing.T) {
	f := fontOf(9, pair(97, 1), pair(8364, 2), pair(55295, 0))
	put := impl.PutPair(f, pair(228, 200)).Font
	instead := impl.PutPair(f, pair(8364, 200)).Font
	dropped := impl.DropPair(f, 8364).Font
	for c := int64(-10); c <= 65546; c++ {
		if c < 0 || c > 65535 || isSurrogate(c) {
			for _, one := range []impl.Font{f, put, instead, dropped} {
				if r := impl.GlyphOf(one, c); r != (impl.IntResult{Code: impl.ErrRange}) {
					t.Fatalf("GlyphOf(%v, %d) = %v, want ErrRange", one, c, r)
				}
			}
			continue
		}
		was := impl.GlyphOf(f, c)
		if was != (impl.IntResult{Value: glyphByPairs(f, c)}) {
			t.Fatalf("GlyphOf(%v, %d) = %v", f, c, was)
		}
		inPut, inInstead, inDropped := was, was, was
		if c == 228 {
			inPut.Value = 200
		}
		if c == 8364 {
			inInstead.Value, inDropped.Value = 200, 9
		}
		if impl.GlyphOf(put, c) != inPut || impl.GlyphOf(instead, c) != inInstead || impl.GlyphOf(dropped, c) != inDropped {
			t.Fatalf("%d tells %v, %v and %v", c, impl.GlyphOf(put, c), impl.GlyphOf(instead, c), impl.GlyphOf(dropped, c))
		}
	}
}

// In every font, whatever pair is put or dropped: it tells its glyph or the fallback, and the others what they told.
func TestPutAndDropTell(t *testing.T) {
	for _, f := range goodFonts() {
		near := charsNear(f)
		for _, c := range near {
			put, dropped := impl.PutPair(f, pair(c, 201)), impl.DropPair(f, c)
			for _, other := range near {
				was := impl.GlyphOf(f, other)
				if other != c && put.Code == impl.OK && impl.GlyphOf(put.Font, other) != was {
					t.Fatalf("PutPair(%v, %d) turns %d", f, c, other)
				}
				if other != c && dropped.Code == impl.OK && impl.GlyphOf(dropped.Font, other) != was {
					t.Fatalf("DropPair(%v, %d) turns %d", f, c, other)
				}
			}
			if put.Code == impl.OK && impl.GlyphOf(put.Font, c).Value != 201 {
				t.Fatalf("PutPair(%v, %d) tells %v", f, c, impl.GlyphOf(put.Font, c))
			}
			if dropped.Code == impl.OK && impl.GlyphOf(dropped.Font, c) != (impl.IntResult{Value: f.Fallback}) {
				t.Fatalf("DropPair(%v, %d) tells %v", f, c, impl.GlyphOf(dropped.Font, c))
			}
		}
	}
}

func TestCharsOf(t *testing.T) {
	for _, f := range goodFonts() {
		for g := range int64(256) {
			var want []int64
			for _, p := range f.Pairs {
				if p.Glyph == g {
					want = append(want, p.Char)
				}
			}
			r := impl.CharsOf(f, g)
			if r.Code != impl.OK || !slices.Equal(r.List, want) {
				t.Fatalf("CharsOf(%v, %d) = %v, want %v", f, g, r, want)
			}
			for _, c := range r.List {
				if impl.GlyphOf(f, c) != (impl.IntResult{Value: g}) {
					t.Fatalf("%d is told of %d in %v, but tells %v", c, g, f, impl.GlyphOf(f, c))
				}
			}
		}
		for _, g := range noGlyphs {
			if r := impl.CharsOf(f, g); r.Code != impl.ErrRange || len(r.List) != 0 {
				t.Fatalf("CharsOf(%v, %d) = %v, want ErrRange", f, g, r)
			}
		}
	}
}

func TestCharsOfByHand(t *testing.T) {
	f := fontOf(9, pair(3, 5), pair(10, 0), pair(97, 5), pair(228, 255), pair(8364, 5), pair(9000, 9))
	for _, x := range []struct {
		glyph int64
		want  []int64
	}{
		{5, []int64{3, 97, 8364}}, {0, []int64{10}}, {255, []int64{228}}, {1, nil}, {254, nil}, {3, nil},
		// The characters that only fall back to it have no pair.
		{9, []int64{9000}},
	} {
		if r := impl.CharsOf(f, x.glyph); r.Code != impl.OK || !slices.Equal(r.List, x.want) {
			t.Errorf("CharsOf of %d = %v, want %v", x.glyph, r, x.want)
		}
	}
	all := fontOfMany(20)
	var want []int64
	for i := range all.Pairs {
		all.Pairs[i].Glyph = 255
		want = append(want, all.Pairs[i].Char)
	}
	if r := impl.CharsOf(all, 255); r.Code != impl.OK || !slices.Equal(r.List, want) {
		t.Errorf("CharsOf of all = %v, want %v", r, want)
	}
	if r := impl.CharsOf(fontOf(9), 9); r.Code != impl.OK || len(r.List) != 0 {
		t.Errorf("CharsOf of a fallback alone = %v", r)
	}
}

func TestTranslateChar(t *testing.T) {
	for c := int64(-10); c <= 65546; c++ {
		for table := int64(-1); table <= 5; table++ {
			want := impl.IntResult{Value: c}
			switch {
			case table < 1 || table > 3 || c < 0 || c > 65535 || isSurrogate(c):
				want = impl.IntResult{Code: impl.ErrRange}
			case table == impl.TableLines && c >= 'a' && c <= 'z':
				want.Value = 9472 + c - 97
			case table == impl.TableNull && c > ' ' && c <= '~':
				want.Value = 61440 + c
			}
			if r := impl.TranslateChar(table, c); r != want {
				t.Fatalf("TranslateChar(%d, %d) = %v, want %v", table, c, r, want)
			}
		}
	}
	for _, n := range bigNumbers {
		for table := int64(0); table <= 4; table++ {
			if r := impl.TranslateChar(table, n); r != (impl.IntResult{Code: impl.ErrRange}) {
				t.Errorf("TranslateChar(%d, %d) = %v, want ErrRange", table, n, r)
			}
		}
		for _, c := range charEdges {
			if r := impl.TranslateChar(n, c); r != (impl.IntResult{Code: impl.ErrRange}) {
				t.Errorf("TranslateChar(%d, %d) = %v, want ErrRange", n, c, r)
			}
		}
	}
}

func TestTranslateCharByHand(t *testing.T) {
	if impl.TableLatin != 1 || impl.TableLines != 2 || impl.TableNull != 3 {
		t.Fatal(impl.TableLatin, impl.TableLines, impl.TableNull)
	}
	for _, x := range [][3]int64{
		{1, 97, 97}, {1, 33, 33}, {1, 0, 0}, {1, 65535, 65535},
		{2, 96, 96}, {2, 97, 9472}, {2, 113, 9488}, {2, 122, 9497}, {2, 123, 123}, {2, 33, 33}, {2, 9472, 9472},
		{3, 32, 32}, {3, 33, 61473}, {3, 65, 61505}, {3, 97, 61537}, {3, 126, 61566}, {3, 127, 127}, {3, 61473, 61473},
	} {
		if r := impl.TranslateChar(x[0], x[1]); r != (impl.IntResult{Value: x[2]}) {
			t.Errorf("TranslateChar(%d, %d) = %v, want %d", x[0], x[1], r, x[2])
		}
	}
}
