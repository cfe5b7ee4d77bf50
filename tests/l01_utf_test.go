package tests

import (
	"bytes"
	"math"
	"slices"
	"testing"
	"unicode/utf8"

	"loop.example/g00523/impl"
)

// bigNumbers leave every bound; the ones behind the first four are small numbers again if their upper bits are lost.
var bigNumbers = []int64{
	math.MinInt64, math.MinInt64 + 1, math.MaxInt64 - 1, math.MaxInt64,
	1 << 32, 1<<32 + 1, 1<<32 + 2, 1<<32 + 65, 1<<32 + 128, 1<<32 + 2048, -1 << 32, -1<<32 + 65,
	1 << 31, -1 << 31, 1 << 16, 1<<16 + 65, 1<<16 + 128, 1<<16 + 2048, -1 << 16, 1<<63 - 1<<32 + 65,
}

// edgeBytes are those at which a decoder does something else than at their neighbours, and some between.
var edgeBytes = []byte{0, 65, 127, 128, 159, 160, 175, 191, 192, 193, 194, 223, 224, 225, 237, 239, 240, 255}

// told is what a stream tells, and the beginning of a character at its end, worked out without the program's decoder:
// at each place as many bytes are taken as belong together.
func told(data []byte) (chars []int64, rest []byte) {
	for len(data) > 0 {
		n := formLength(data[0])
		if n == 0 {
			chars, data = append(chars, impl.BadChar), data[1:]
			continue
		}
		k := 1
		for k < n && k < len(data) && data[k]&0xC0 == 0x80 {
			k++
		}
		if k < n && k == len(data) {
			return chars, data
		}
		c := int64(impl.BadChar)
		if k == n {
			// The library knows the same forms up to three bytes; what it can't read it tells as the same character.
			r, _ := utf8.DecodeRune(data[:n])
			c = int64(r)
		}
		chars, data = append(chars, c), data[k:]
	}
	return chars, nil
}

// formLength is how many bytes a character has that begins with b; 0 where none does.
func formLength(b byte) int {
	switch {
	case b < 128:
		return 1
	case b >= 194 && b <= 223:
		return 2
	case b >= 224 && b <= 239:
		return 3
	}
	return 0
}

// waiting is a decoder without a fault, and bytes that lead to it from nothing.
type waiting struct {
	decoder impl.Decoder
	bytes   []byte
}

func allWaiting() []waiting {
	list := []waiting{{}}
	for v := int64(2); v <= 31; v++ {
		list = append(list, waiting{impl.Decoder{Left: 1, Low: 128, Value: v}, []byte{192 + byte(v)}})
	}
	for v := int64(0); v <= 15; v++ {
		list = append(list, waiting{impl.Decoder{Left: 2, Low: 2048, Value: v}, []byte{224 + byte(v)}})
	}
	for v := int64(0); v <= 1023; v++ {
		list = append(list, waiting{impl.Decoder{Left: 1, Low: 2048, Value: v}, []byte{224 + byte(v/64), 128 + byte(v%64)}})
	}
	return list
}

func isSurrogate(c int64) bool {
	return c >= 55296 && c <= 57343
}

// wrongDecoder says whether an answer with that code has anything else in it, or another code.
func wrongDecoder(r impl.DecoderResult, code int64) bool {
	return r.Code != code || len(r.Chars) != 0 || r.Decoder != impl.Decoder{}
}

func TestEncodeCharEdges(t *testing.T) {
	for _, x := range []struct {
		c    int64
		want []byte
	}{
		{0, []byte{0}},
		{65, []byte{65}},
		{127, []byte{127}},
		{128, []byte{194, 128}},
		{228, []byte{195, 164}},
		{2047, []byte{223, 191}},
		{2048, []byte{224, 160, 128}},
		{8364, []byte{226, 130, 172}},
		{55295, []byte{237, 159, 191}},
		{57344, []byte{238, 128, 128}},
		{65533, []byte{239, 191, 189}},
		{65535, []byte{239, 191, 191}},
	} {
		r := impl.EncodeChar(x.c)
		if r.Code != impl.OK || !bytes.Equal(r.Bytes, x.want) {
			t.Errorf("EncodeChar(%d) = %v, want %v", x.c, r, x.want)
		}
		d := impl.DecodeMany(impl.Decoder{}, x.want)
		if d.Code != impl.OK || !slices.Equal(d.Chars, []int64{x.c}) || d.Decoder != (impl.Decoder{}) {
			t.Errorf("DecodeMany(%v) = %v, want %d", x.want, d, x.c)
		}
	}
}

func TestEncodeCharNone(t *testing.T) {
	none := append([]int64{-1, -2, -128, 55296, 55297, 56319, 56320, 57342, 57343, 65536, 65537, 1114111}, bigNumbers...)
	for _, c := range none {
		if r := impl.EncodeChar(c); r.Code != impl.ErrRange || len(r.Bytes) != 0 {
			t.Errorf("EncodeChar(%d) = %v, want ErrRange", c, r)
		}
		if r := impl.EncodeAll([]int64{65, c, 66}); r.Code != impl.ErrRange || len(r.Bytes) != 0 {
			t.Errorf("EncodeAll with %d = %v, want ErrRange", c, r)
		}
	}
}

func TestEveryCharIsReadBack(t *testing.T) {
	for c := int64(-10); c <= 65545; c++ {
		r := impl.EncodeChar(c)
		if c < 0 || c > 65535 || isSurrogate(c) {
			if r.Code != impl.ErrRange || len(r.Bytes) != 0 {
				t.Fatalf("EncodeChar(%d) = %v, want ErrRange", c, r)
			}
			continue
		}
		if want := utf8.AppendRune(nil, rune(c)); r.Code != impl.OK || !bytes.Equal(r.Bytes, want) {
			t.Fatalf("EncodeChar(%d) = %v, want %v", c, r, want)
		}
		d := impl.DecodeMany(impl.Decoder{}, r.Bytes)
		if d.Code != impl.OK || !slices.Equal(d.Chars, []int64{c}) || d.Decoder != (impl.Decoder{}) {
			t.Fatalf("%d is read back as %v", c, d)
		}
		if e := impl.EndDecoder(d.Decoder); e.Code != impl.OK || len(e.List) != 0 {
			t.Fatalf("EndDecoder behind %d = %v", c, e)
		}
	}
}

func TestEncodeAllInOrder(t *testing.T) {
	list := []int64{'a', 228, 0, 8364, 65535, 127, 128, 2047, 2048, 55295, 57344}
	var want []byte
	for _, c := range list {
		want = utf8.AppendRune(want, rune(c))
	}
	r := impl.EncodeAll(list)
	if r.Code != impl.OK || !bytes.Equal(r.Bytes, want) {
		t.Fatalf("EncodeAll = %v, want %v", r, want)
	}
	if d := impl.DecodeMany(impl.Decoder{}, r.Bytes); d.Code != impl.OK || !slices.Equal(d.Chars, list) {
		t.Errorf("read back as %v, want %v", d, list)
	}
	for _, none := range [][]int64{nil, {}} {
		if r := impl.EncodeAll(none); r.Code != impl.OK || len(r.Bytes) != 0 {
			t.Errorf("EncodeAll of nothing = %v", r)
		}
	}
	for _, wrong := range [][]int64{{-1}, {55296, 65}, {65, 66, 65536}} {
		if r := impl.EncodeAll(wrong); r.Code != impl.ErrRange || len(r.Bytes) != 0 {
			t.Errorf("EncodeAll(%v) = %v, want ErrRange", wrong, r)
		}
	}
}

func TestEncodeAllMany(t *testing.T) {
	for _, c := range []int64{0, 65, 228, 65535} {
		one := utf8.AppendRune(nil, rune(c))
		for _, n := range []int{399, 400} {
			r := impl.EncodeAll(slices.Repeat([]int64{c}, n))
			if r.Code != impl.OK || !bytes.Equal(r.Bytes, bytes.Repeat(one, n)) {
				t.Errorf("EncodeAll of %d times %d: code %d, %d bytes", n, c, r.Code, len(r.Bytes))
			}
		}
	}
	for _, c := range []int64{65, -1, 55296, 65536} {
		for _, n := range []int{401, 402, 5000} {
			if r := impl.EncodeAll(slices.Repeat([]int64{c}, n)); r.Code != impl.ErrMany || len(r.Bytes) != 0 {
				t.Errorf("EncodeAll of %d times %d: code %d, %d bytes, want ErrMany", n, c, r.Code, len(r.Bytes))
			}
		}
	}
	last := append(slices.Repeat([]int64{65}, 399), 65536)
	if r := impl.EncodeAll(last); r.Code != impl.ErrRange || len(r.Bytes) != 0 {
		t.Errorf("EncodeAll with a wrong last one: %v, want ErrRange", r.Code)
	}
}

// Every number near a bound of every part, with every other: only the decoders that chapter 1 tells have no fault.
func TestDecoderFault(t *testing.T) {
	right := map[impl.Decoder]bool{}
	for _, w := range allWaiting() {
		right[w.decoder] = true
		if f := impl.DecoderFault(w.decoder); f != impl.OK {
			t.Errorf("DecoderFault(%v) = %d, want 0", w.decoder, f)
		}
	}
	numbers := append([]int64{-2048, -128, -2, -1, 0, 1, 2, 3, 4, 14, 15, 16, 17, 30, 31, 32, 33, 63, 64, 127, 128, 129, 192, 255, 256, 1022, 1023, 1024, 1025, 2047, 2048, 2049, 4096, 65533, 65535}, bigNumbers...)
	faults := 0
	for _, left := range numbers {
		for _, low := range numbers {
			for _, value := range numbers {
				d := impl.Decoder{Left: left, Low: low, Value: value}
				if right[d] {
					continue
				}
				faults++
				if f := impl.DecoderFault(d); f != impl.ErrRange {
					t.Fatalf("DecoderFault(%v) = %d, want ErrRange", d, f)
				}
			}
		}
	}
	if faults < 100000 {
		t.Errorf("only %d faults were asked", faults)
	}
}

func TestDecoderFaultIsAskedFirst(t *testing.T) {
	wrong := []impl.Decoder{
		{Left: -1}, {Left: 3, Low: 2048}, {Left: 1}, {Left: 2}, {Low: 128}, {Low: 2048}, {Value: 1}, {Value: -1},
		{Left: 1, Low: 128, Value: 1}, {Left: 1, Low: 128, Value: 0}, {Left: 1, Low: 128, Value: 32}, {Left: 1, Low: 128, Value: -1},
		{Left: 2, Low: 2048, Value: 16}, {Left: 2, Low: 2048, Value: -1}, {Left: 2, Low: 128, Value: 2},
		{Left: 1, Low: 2048, Value: 1024}, {Left: 1, Low: 2048, Value: -1}, {Left: 0, Low: 2048, Value: 2048}, {Left: 1, Low: 0, Value: 2},
		{Left: 1, Low: 129, Value: 2}, {Left: 1, Low: 127, Value: 2}, {Left: 2, Low: 2047}, {Left: 2, Low: 2049},
	}
	for _, n := range bigNumbers {
		wrong = append(wrong, impl.Decoder{Left: n}, impl.Decoder{Left: n, Low: 2048, Value: 1}, impl.Decoder{Left: 1, Low: n, Value: 2},
			impl.Decoder{Left: 1, Low: 128, Value: n}, impl.Decoder{Left: 1, Low: 2048, Value: n}, impl.Decoder{Left: n, Low: n, Value: n})
	}
	for _, d := range wrong {
		if f := impl.DecoderFault(d); f != impl.ErrRange {
			t.Errorf("DecoderFault(%v) = %d, want ErrRange", d, f)
		}
		for b := range 256 {
			if r := impl.StepDecoder(d, byte(b)); wrongDecoder(r, impl.ErrRange) {
				t.Fatalf("StepDecoder(%v, %d) = %v, want ErrRange", d, b, r)
			}
		}
		for _, n := range []int{0, 1, 3, 2000, 2001} {
			if r := impl.DecodeMany(d, bytes.Repeat([]byte{65}, n)); wrongDecoder(r, impl.ErrRange) {
				t.Errorf("DecodeMany(%v) of %d bytes = %v, want ErrRange", d, n, r)
			}
		}
		if r := impl.EndDecoder(d); r.Code != impl.ErrRange || len(r.List) != 0 {
			t.Errorf("EndDecoder(%v) = %v, want ErrRange", d, r)
		}
	}
}

func TestStepDecoderByHand(t *testing.T) {
	two := func(v int64) impl.Decoder { return impl.Decoder{Left: 1, Low: 128, Value: v} }
	three := func(v int64) impl.Decoder { return impl.Decoder{Left: 2, Low: 2048, Value: v} }
	last := func(v int64) impl.Decoder { return impl.Decoder{Left: 1, Low: 2048, Value: v} }
	const bad = impl.BadChar
	for _, x := range []struct {
		d     impl.Decoder
		b     byte
		chars []int64
		then  impl.Decoder
	}{
		{impl.Decoder{}, 0, []int64{0}, impl.Decoder{}},
		{impl.Decoder{}, 127, []int64{127}, impl.Decoder{}},
		{impl.Decoder{}, 128, []int64{bad}, impl.Decoder{}},
		{impl.Decoder{}, 191, []int64{bad}, impl.Decoder{}},
		{impl.Decoder{}, 192, []int64{bad}, impl.Decoder{}},
		{impl.Decoder{}, 193, []int64{bad}, impl.Decoder{}},
		{impl.Decoder{}, 194, nil, two(2)},
		{impl.Decoder{}, 223, nil, two(31)},
		{impl.Decoder{}, 224, nil, three(0)},
		{impl.Decoder{}, 239, nil, three(15)},
		{impl.Decoder{}, 240, []int64{bad}, impl.Decoder{}},
		{impl.Decoder{}, 255, []int64{bad}, impl.Decoder{}},
		{two(2), 128, []int64{128}, impl.Decoder{}},
		{two(31), 191, []int64{2047}, impl.Decoder{}},
		{two(3), 127, []int64{bad, 127}, impl.Decoder{}},
		{two(3), 192, []int64{bad, bad}, impl.Decoder{}},
		{two(3), 194, []int64{bad}, two(2)},
		{two(3), 224, []int64{bad}, three(0)},
		{two(3), 255, []int64{bad, bad}, impl.Decoder{}},
		{three(0), 128, nil, last(0)},
		{three(15), 191, nil, last(1023)},
		{three(2), 65, []int64{bad, 65}, impl.Decoder{}},
		{three(2), 223, []int64{bad}, two(31)},
		{three(2), 239, []int64{bad}, three(15)},
		{three(2), 240, []int64{bad, bad}, impl.Decoder{}},
		{last(0), 128, []int64{bad}, impl.Decoder{}},
		{last(31), 191, []int64{bad}, impl.Decoder{}},
		{last(32), 128, []int64{2048}, impl.Decoder{}},
		{last(863), 191, []int64{55295}, impl.Decoder{}},
		{last(864), 128, []int64{bad}, impl.Decoder{}},
		{last(895), 191, []int64{bad}, impl.Decoder{}},
		{last(896), 128, []int64{57344}, impl.Decoder{}},
		{last(1023), 191, []int64{65535}, impl.Decoder{}},
		{last(130), 10, []int64{bad, 10}, impl.Decoder{}},
		{last(130), 226, []int64{bad}, three(2)},
		{last(130), 193, []int64{bad, bad}, impl.Decoder{}},
	} {
		r := impl.StepDecoder(x.d, x.b)
		if r.Code != impl.OK || !slices.Equal(r.Chars, x.chars) || r.Decoder != x.then {
			t.Errorf("StepDecoder(%v, %d) = %v, want %v and %v", x.d, x.b, r, x.chars, x.then)
		}
	}
}

// Whatever byte comes, in whatever state: what the words of the chapter tell, something told or waited for, and no fault.
func TestEveryByteInEveryState(t *testing.T) {
	for _, w := range allWaiting() {
		for b := range 256 {
			r := impl.StepDecoder(w.decoder, byte(b))
			if r.Code != impl.OK || impl.DecoderFault(r.Decoder) != impl.OK {
				t.Fatalf("StepDecoder(%v, %d) = %v", w.decoder, b, r)
			}
			if len(r.Chars) == 0 && r.Decoder.Left == 0 {
				t.Fatalf("StepDecoder(%v, %d) tells nothing and waits for nothing", w.decoder, b)
			}
			for _, c := range r.Chars {
				if c < 0 || c > 65535 || isSurrogate(c) {
					t.Fatalf("StepDecoder(%v, %d) tells %d", w.decoder, b, c)
				}
			}
			chars, rest := told(append(slices.Clone(w.bytes), byte(b)))
			if !slices.Equal(r.Chars, chars) || r.Decoder != decoderBehind(rest) {
				t.Fatalf("StepDecoder(%v, %d) = %v, want %v and %v", w.decoder, b, r, chars, decoderBehind(rest))
			}
			one := impl.DecodeMany(w.decoder, []byte{byte(b)})
			if one.Code != impl.OK || !slices.Equal(one.Chars, r.Chars) || one.Decoder != r.Decoder {
				t.Fatalf("DecodeMany(%v, %d) = %v, StepDecoder %v", w.decoder, b, one, r)
			}
		}
	}
}

// decoderBehind is the decoder that waits behind the beginning of a character.
func decoderBehind(rest []byte) impl.Decoder {
	switch {
	case len(rest) == 0:
		return impl.Decoder{}
	case len(rest) == 2:
		return impl.Decoder{Left: 1, Low: 2048, Value: int64(rest[0]-224)*64 + int64(rest[1]-128)}
	case rest[0] < 224:
		return impl.Decoder{Left: 1, Low: 128, Value: int64(rest[0] - 192)}
	}
	return impl.Decoder{Left: 2, Low: 2048, Value: int64(rest[0] - 224)}
}

func TestBytesThatBreakOff(t *testing.T) {
	const bad = impl.BadChar
	for _, x := range []struct {
		data  []byte
		chars []int64
		left  int64
	}{
		{[]byte{195, 65}, []int64{bad, 65}, 0},
		{[]byte{226, 65}, []int64{bad, 65}, 0},
		{[]byte{226, 130, 65}, []int64{bad, 65}, 0},
		{[]byte{226, 130, 195, 164}, []int64{bad, 228}, 0},
		{[]byte{226, 226, 130, 172}, []int64{bad, 8364}, 0},
		{[]byte{195, 195, 195, 164}, []int64{bad, bad, 228}, 0},
		{[]byte{195, 255, 164}, []int64{bad, bad, bad}, 0},
		{[]byte{195, 10, 164}, []int64{bad, 10, bad}, 0},
		{[]byte{195}, nil, 1},
		{[]byte{226}, nil, 2},
		{[]byte{226, 130}, nil, 1},
		{[]byte{226, 130, 226}, []int64{bad}, 2},
		{[]byte{128, 191, 65}, []int64{bad, bad, 65}, 0},
		{[]byte{240, 159, 152, 128}, []int64{bad, bad, bad, bad}, 0},
	} {
		r := impl.DecodeMany(impl.Decoder{}, x.data)
		if r.Code != impl.OK || !slices.Equal(r.Chars, x.chars) || r.Decoder.Left != x.left {
			t.Errorf("DecodeMany(%v) = %v, want %v and %d left", x.data, r, x.chars, x.left)
		}
	}
}

// Each character in each form that is longer than it needs is never told.
func TestLongerForms(t *testing.T) {
	for c := int64(0); c < 128; c++ {
		data := []byte{192 + byte(c>>6), 128 + byte(c&63)}
		r := impl.DecodeMany(impl.Decoder{}, data)
		if r.Code != impl.OK || !slices.Equal(r.Chars, []int64{impl.BadChar, impl.BadChar}) || r.Decoder != (impl.Decoder{}) {
			t.Fatalf("DecodeMany(%v) = %v", data, r)
		}
	}
	for c := int64(0); c < 2048; c++ {
		data := []byte{224, 128 + byte(c>>6), 128 + byte(c&63)}
		r := impl.DecodeMany(impl.Decoder{}, data)
		if r.Code != impl.OK || !slices.Equal(r.Chars, []int64{impl.BadChar}) || r.Decoder != (impl.Decoder{}) {
			t.Fatalf("DecodeMany(%v) = %v", data, r)
		}
	}
	for c := int64(55296); c <= 57343; c++ {
		data := []byte{237, 128 + byte(c>>6&63), 128 + byte(c&63)}
		r := impl.DecodeMany(impl.Decoder{}, data)
		if r.Code != impl.OK || !slices.Equal(r.Chars, []int64{impl.BadChar}) || r.Decoder != (impl.Decoder{}) {
			t.Fatalf("DecodeMany(%v) = %v", data, r)
		}
	}
}

// Every stream of up to four edge bytes, cut at every place.
func TestShortStreamsInPieces(t *testing.T) {
	streams := [][]byte{{}}
	for range 4 {
		var longer [][]byte
		for _, s := range streams {
			for _, b := range edgeBytes {
				longer = append(longer, append(slices.Clone(s), b))
			}
		}
		for _, s := range longer {
			checkPieces(t, impl.Decoder{}, s)
		}
		if t.Failed() {
			return
		}
		streams = longer
	}
}

func checkPieces(t *testing.T, d impl.Decoder, data []byte) {
	t.Helper()
	whole := impl.DecodeMany(d, data)
	if d == (impl.Decoder{}) {
		chars, rest := told(data)
		if whole.Code != impl.OK || !slices.Equal(whole.Chars, chars) || whole.Decoder != decoderBehind(rest) {
			t.Fatalf("DecodeMany(%v) = %v, want %v and %v", data, whole, chars, decoderBehind(rest))
		}
	}
	for cut := range len(data) + 1 {
		a := impl.DecodeMany(d, data[:cut])
		b := impl.DecodeMany(a.Decoder, data[cut:])
		if a.Code != impl.OK || b.Code != impl.OK || !slices.Equal(slices.Concat(a.Chars, b.Chars), whole.Chars) || b.Decoder != whole.Decoder {
			t.Fatalf("%v cut at %d: %v and %v, at once %v", data, cut, a, b, whole)
		}
	}
	var chars []int64
	state := d
	for _, b := range data {
		r := impl.StepDecoder(state, b)
		chars, state = append(chars, r.Chars...), r.Decoder
	}
	if !slices.Equal(chars, whole.Chars) || state != whole.Decoder {
		t.Fatalf("%v byte by byte: %v and %v, at once %v", data, chars, state, whole)
	}
}

// longStream holds every edge byte behind every other, and characters of all lengths.
func longStream() []byte {
	var data []byte
	for _, a := range edgeBytes {
		for _, b := range edgeBytes {
			data = append(data, a, b)
		}
	}
	for _, c := range []rune{0, 127, 128, 2047, 2048, 55295, 57344, 65535} {
		data = utf8.AppendRune(data, c)
	}
	return data
}

func TestLongStreamInPieces(t *testing.T) {
	data := longStream()
	for _, w := range allWaiting() {
		if w.decoder.Value%64 < 3 || w.decoder.Value%64 > 60 {
			checkPieces(t, w.decoder, data[:40])
		}
	}
	checkPieces(t, impl.Decoder{}, data)
	for size := 1; size <= 9; size++ {
		var chars []int64
		d := impl.Decoder{}
		for piece := range slices.Chunk(data, size) {
			r := impl.DecodeMany(d, piece)
			chars, d = append(chars, r.Chars...), r.Decoder
		}
		if whole := impl.DecodeMany(impl.Decoder{}, data); !slices.Equal(chars, whole.Chars) || d != whole.Decoder {
			t.Errorf("in pieces of %d: %v and %v, at once %v", size, chars, d, whole)
		}
	}
}

func TestDecodeManyMany(t *testing.T) {
	for _, n := range []int{1999, 2000} {
		r := impl.DecodeMany(impl.Decoder{}, bytes.Repeat([]byte{65}, n))
		if r.Code != impl.OK || !slices.Equal(r.Chars, slices.Repeat([]int64{65}, n)) || r.Decoder != (impl.Decoder{}) {
			t.Errorf("DecodeMany of %d bytes: code %d, %d characters", n, r.Code, len(r.Chars))
		}
	}
	broken := impl.DecodeMany(impl.Decoder{Left: 1, Low: 128, Value: 2}, bytes.Repeat([]byte{255}, 2000))
	if broken.Code != impl.OK || !slices.Equal(broken.Chars, slices.Repeat([]int64{impl.BadChar}, 2001)) {
		t.Errorf("2000 bytes that break off: code %d, %d characters", broken.Code, len(broken.Chars))
	}
	for _, w := range allWaiting()[:60] {
		for _, n := range []int{2001, 2002, 5000} {
			if r := impl.DecodeMany(w.decoder, bytes.Repeat([]byte{128}, n)); wrongDecoder(r, impl.ErrMany) {
				t.Errorf("DecodeMany(%v) of %d bytes: code %d, want ErrMany", w.decoder, n, r.Code)
			}
		}
	}
}

func TestDecodeNothing(t *testing.T) {
	for _, w := range allWaiting() {
		for _, none := range [][]byte{nil, {}} {
			r := impl.DecodeMany(w.decoder, none)
			if r.Code != impl.OK || len(r.Chars) != 0 || r.Decoder != w.decoder {
				t.Fatalf("DecodeMany(%v) of nothing = %v", w.decoder, r)
			}
		}
	}
}

func TestEndDecoder(t *testing.T) {
	for _, w := range allWaiting() {
		r := impl.EndDecoder(w.decoder)
		var want []int64
		if w.decoder.Left > 0 {
			want = []int64{65533}
		}
		if r.Code != impl.OK || !slices.Equal(r.List, want) {
			t.Fatalf("EndDecoder(%v) = %v, want %v", w.decoder, r, want)
		}
	}
}
