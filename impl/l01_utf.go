package impl

const OK = 0
const ErrForm = 1
const ErrMany = 2
const ErrRange = 3
const ErrNone = 4
const ErrText = 5
const ErrState = 7
const BadChar = 65533

type IntResult struct {
	Code  int64
	Value int64
}
type IntsResult struct {
	Code int64
	List []int64
}
type BytesResult struct {
	Code  int64
	Bytes []byte
}
type TextResult struct {
	Code int64
	Text string
}
type Decoder struct {
	Left  int64
	Low   int64
	Value int64
}
type DecoderResult struct {
	Code    int64
	Chars   []int64
	Decoder Decoder
}

// What the first bytes of longer forms begin at, what stands ahead of six bits
// in each byte behind them, and the least characters that such forms may tell:
// a shorter form tells what is below.
const (
	firstOfTwo   = 192
	firstOfThree = 224
	behindFirst  = 128
	leastOfTwo   = 128
	leastOfThree = 2048
)

const (
	maxEncoded = 400
	maxDecoded = 2000
)

// decoderState is a decoder as an array: a step works on a copy of the whole,
// so none turns what another one holds.
type decoderState [3]uint32

const (
	partLeft = iota
	partLow
	partValue
)

func DecoderFault(d Decoder) int64 {
	fits := false
	switch {
	case d.Left == 0 && d.Low == 0:
		fits = d.Value == 0
	case d.Left == 1 && d.Low == leastOfTwo:
		fits = isFromTo(d.Value, 2, 31)
	case d.Left == 2 && d.Low == leastOfThree:
		fits = isFromTo(d.Value, 0, 15)
	case d.Left == 1 && d.Low == leastOfThree:
		fits = isFromTo(d.Value, 0, 1023)
	}
	if fits {
		return OK
	}
	return ErrRange
}

func StepDecoder(d Decoder, b byte) DecoderResult {
	if code := DecoderFault(d); code != OK {
		return DecoderResult{Code: code}
	}
	state, told := stateOf(d).hear(b, nil)
	return DecoderResult{Chars: told, Decoder: state.decoder()}
}

func DecodeMany(d Decoder, data []byte) DecoderResult {
	if code := DecoderFault(d); code != OK {
		return DecoderResult{Code: code}
	}
	if len(data) > maxDecoded {
		return DecoderResult{Code: ErrMany}
	}
	state := stateOf(d)
	var told []int64
	for _, b := range data {
		state, told = state.hear(b, told)
	}
	return DecoderResult{Chars: told, Decoder: state.decoder()}
}

func EncodeChar(c int64) BytesResult {
	if !isChar(c) {
		return BytesResult{Code: ErrRange}
	}
	return BytesResult{Bytes: appendChar(nil, uint32(c))}
}

func EncodeAll(list []int64) BytesResult {
	if len(list) > maxEncoded {
		return BytesResult{Code: ErrMany}
	}
	var out []byte
	for _, c := range list {
		if !isChar(c) {
			return BytesResult{Code: ErrRange}
		}
		out = appendChar(out, uint32(c))
	}
	return BytesResult{Bytes: out}
}

func EndDecoder(d Decoder) IntsResult {
	if code := DecoderFault(d); code != OK {
		return IntsResult{Code: code}
	}
	if d.Left == 0 {
		return IntsResult{}
	}
	return IntsResult{List: []int64{BadChar}}
}

func isFromTo(n, least, most int64) bool {
	return least <= n && n <= most
}

func isChar(c int64) bool {
	return isFromTo(c, 0, 65535) && !isFromTo(c, 55296, 57343)
}

// stateOf takes a decoder without a fault: its numbers are none below 0 then.
func stateOf(d Decoder) decoderState {
	return decoderState{uint32(d.Left), uint32(d.Low), uint32(d.Value)}
}

func (s decoderState) decoder() Decoder {
	return Decoder{
		Left:  int64(s[partLeft]),
		Low:   int64(s[partLow]),
		Value: int64(s[partValue]),
	}
}

// hear answers the state behind the byte, and told with what the byte tells behind it.
func (s decoderState) hear(b byte, told []int64) (decoderState, []int64) {
	if s[partLeft] == 0 {
		return hearFirst(b, told)
	}
	if b < behindFirst || b >= firstOfTwo {
		// The byte broke a character off; it may begin one of its own.
		return hearFirst(b, append(told, BadChar))
	}
	s[partValue] = s[partValue]<<6 | uint32(b-behindFirst)
	s[partLeft]--
	if s[partLeft] > 0 {
		return s, told
	}
	return decoderState{}, append(told, s.whole())
}

// tell goes on by a byte, and gives each character that it tells to who hears.
func (s *decoderState) tell(b byte, heard func(c int64)) {
	then, told := s.hear(b, nil)
	*s = then
	for _, c := range told {
		heard(c)
	}
}

func hearFirst(b byte, told []int64) (decoderState, []int64) {
	switch {
	case b < behindFirst:
		return decoderState{}, append(told, int64(b))
	// 192 and 193 would begin longer forms of what one byte tells.
	case b >= 194 && b < firstOfThree:
		return decoderState{1, leastOfTwo, uint32(b - firstOfTwo)}, told
	case b >= firstOfThree && b <= 239:
		return decoderState{2, leastOfThree, uint32(b - firstOfThree)}, told
	}
	return decoderState{}, append(told, BadChar)
}

// whole answers what a state with nothing left tells.
func (s decoderState) whole() int64 {
	c := int64(s[partValue])
	if s[partValue] < s[partLow] || !isChar(c) {
		return BadChar
	}
	return c
}

// appendChar takes a character alone: another number would not fit in three bytes.
func appendChar(out []byte, c uint32) []byte {
	switch {
	case c < leastOfTwo:
		return append(out, byte(c))
	case c < leastOfThree:
		return append(out, firstOfTwo|byte(c>>6), sixBits(c))
	}
	return append(out, firstOfThree|byte(c>>12), sixBits(c>>6), sixBits(c))
}

func sixBits(c uint32) byte {
	return behindFirst | byte(c&63)
}
