package tests

import (
	"bytes"
	"fmt"
	"math"
	"slices"
	"sync"
	"testing"

	"loop.example/g00523/impl"
)

// overwrite fills a list, and the room behind it, with another value.
func overwrite[T any](list []T, v T) {
	list = list[:cap(list)]
	for i := range list {
		list[i] = v
	}
}

// withRoom is a copy of a list with room behind it that holds a mark, and the whole of both.
func withRoom[T any](list []T, mark T) (short []T, whole []T) {
	whole = append(slices.Clone(list), mark, mark, mark, mark)
	return whole[:len(list)], whole
}

func TestCharsArgumentsStay(t *testing.T) {
	for _, list := range [][]int64{{}, {65}, {0, 228, 65535}, {65, -1, 66}, {55296}, slices.Repeat([]int64{8364}, 400), slices.Repeat([]int64{65}, 401)} {
		short, whole := withRoom(list, int64(-7))
		before := slices.Clone(whole)
		r := impl.EncodeAll(short)
		want := slices.Clone(r.Bytes)
		if !slices.Equal(whole, before) {
			t.Fatalf("EncodeAll changed its list of %d", len(list))
		}
		overwrite(whole, 77)
		if !bytes.Equal(r.Bytes, want) {
			t.Errorf("EncodeAll's answer turned with its list of %d", len(list))
		}
	}
	for _, data := range [][]byte{{}, {65}, longStream(), bytes.Repeat([]byte{195}, 2000), bytes.Repeat([]byte{65}, 2001)} {
		for _, d := range []impl.Decoder{{}, {Left: 1, Low: 128, Value: 3}, {Left: 2, Low: 2048}, {Left: 9}} {
			short, whole := withRoom(data, byte(250))
			before := slices.Clone(whole)
			r := impl.DecodeMany(d, short)
			want := slices.Clone(r.Chars)
			if !bytes.Equal(whole, before) {
				t.Fatalf("DecodeMany changed its %d bytes", len(data))
			}
			overwrite(r.Chars, -9)
			if !bytes.Equal(whole, before) {
				t.Errorf("DecodeMany's answer shares memory with its %d bytes", len(data))
			}
			if again := impl.DecodeMany(d, short); !slices.Equal(again.Chars, want) {
				t.Errorf("DecodeMany of %d bytes answers another time %v, want %v", len(data), again.Chars, want)
			}
		}
	}
}

// An answer that is overwritten turns no other answer, earlier or later.
func TestCharsAnswersAreNew(t *testing.T) {
	for _, c := range []int64{0, 65, 127, 128, 2047, 2048, 65535} {
		first, second := impl.EncodeChar(c), impl.EncodeChar(c)
		want := slices.Clone(first.Bytes)
		overwrite(first.Bytes, 1)
		if !bytes.Equal(second.Bytes, want) || !bytes.Equal(impl.EncodeChar(c).Bytes, want) {
			t.Errorf("answers of EncodeChar(%d) share memory", c)
		}
	}
	list := []int64{65, 228, 8364}
	first, second := impl.EncodeAll(list), impl.EncodeAll(list)
	want := slices.Clone(first.Bytes)
	overwrite(first.Bytes, 1)
	if !bytes.Equal(second.Bytes, want) || !bytes.Equal(impl.EncodeAll(list).Bytes, want) {
		t.Error("answers of EncodeAll share memory")
	}
	for _, w := range allWaiting() {
		ended, other := impl.EndDecoder(w.decoder), impl.EndDecoder(w.decoder)
		keep := slices.Clone(ended.List)
		overwrite(ended.List, 1)
		if !slices.Equal(other.List, keep) || !slices.Equal(impl.EndDecoder(w.decoder).List, keep) {
			t.Fatalf("answers of EndDecoder(%v) share memory", w.decoder)
		}
		for _, b := range edgeBytes {
			step, next := impl.StepDecoder(w.decoder, b), impl.StepDecoder(w.decoder, b)
			keep := slices.Clone(step.Chars)
			overwrite(step.Chars, 1)
			if !slices.Equal(next.Chars, keep) || !slices.Equal(impl.StepDecoder(w.decoder, b).Chars, keep) {
				t.Fatalf("answers of StepDecoder(%v, %d) share memory", w.decoder, b)
			}
		}
	}
}

// charsAnswers calls every function of chapter 1 with that number, byte and length, and tells all answers.
func charsAnswers(n int64, b byte, length int) string {
	var out []string
	list, data := slices.Repeat([]int64{n}, length), bytes.Repeat([]byte{b}, length)
	out = append(out, fmt.Sprint(impl.EncodeChar(n), impl.EncodeAll(list)))
	for _, d := range []impl.Decoder{{}, {Left: n}, {Low: n}, {Value: n}, {Left: 1, Low: 128, Value: n}, {Left: 2, Low: 2048, Value: n}, {Left: 1, Low: 2048, Value: n}, {Left: n, Low: n, Value: n}, {Left: n, Low: 2048, Value: 3}, {Left: 1, Low: n, Value: 3}} {
		out = append(out, fmt.Sprint(impl.DecoderFault(d), impl.StepDecoder(d, b), impl.DecodeMany(d, data), impl.EndDecoder(d)))
	}
	return fmt.Sprint(out)
}

// Whatever comes in, from however many callers, in whatever order: nothing panics, and the same call answers the same.
func TestCharsAnswerAtEveryArgument(t *testing.T) {
	numbers := append([]int64{-1, 0, 1, 2, 3, 15, 16, 31, 32, 127, 128, 1023, 1024, 2047, 2048, 55295, 55296, 57343, 57344, 65533, 65535, 65536, math.MaxInt32}, bigNumbers...)
	lengths := []int{0, 1, 2, 3, 400, 401, 2000, 2001}
	ask := func() []string {
		var out []string
		for i, n := range numbers {
			for j, b := range edgeBytes {
				out = append(out, charsAnswers(n, b, lengths[(i+j)%len(lengths)]))
			}
		}
		return out
	}
	all := make([][]string, 3)
	var wait sync.WaitGroup
	for i := range all {
		wait.Go(func() { all[i] = ask() })
	}
	wait.Wait()
	for i, n := range slices.Backward(numbers) {
		for j, b := range edgeBytes {
			at := i*len(edgeBytes) + j
			want := charsAnswers(n, b, lengths[(i+j)%len(lengths)])
			for _, one := range all {
				if one[at] != want {
					t.Fatalf("other answers at %d, %d", n, b)
				}
			}
		}
	}
}
