package tests

import (
	"fmt"
	"slices"
	"sync"
	"testing"

	"loop.example/g00523/impl"
)

// markPair is in no font of the tests.
var markPair = impl.Pair{Char: -7, Glyph: -8}

// allFonts are those without and those with a fault.
func allFonts() []impl.Font {
	fonts := goodFonts()
	for _, x := range wrongFonts() {
		fonts = append(fonts, x.font)
	}
	return fonts
}

// fontAnswers calls every function of chapter 2 with that font and number, and tells all answers.
func fontAnswers(f impl.Font, n int64) string {
	return fmt.Sprint(impl.FontFault(f), impl.PutPair(f, pair(n, 3)), impl.PutPair(f, pair(40, n)), impl.PutPair(f, pair(n, n)),
		impl.DropPair(f, n), impl.GlyphOf(f, n), impl.CharsOf(f, n), impl.TranslateChar(n, 97), impl.TranslateChar(2, n), impl.TranslateChar(n, n))
}

func fontNumbers() []int64 {
	return slices.Concat([]int64{-1, 0, 1, 2, 3, 4, 10, 11, 20, 100, 190, 200, 210, 254, 255, 256}, charEdges, noChars)
}

func TestFontsStay(t *testing.T) {
	for _, f := range allFonts() {
		short, whole := withRoom(f.Pairs, markPair)
		before := slices.Clone(whole)
		for _, n := range fontNumbers() {
			fontAnswers(impl.Font{Fallback: f.Fallback, Pairs: short}, n)
			if !slices.Equal(whole, before) {
				t.Fatalf("the pairs of %v were changed at %d", f, n)
			}
		}
	}
}

// An answer that is overwritten turns no argument and no other answer, and an argument no answer.
func TestFontAnswersAreNew(t *testing.T) {
	for _, f := range goodFonts() {
		for _, n := range []int64{0, 10, 15, 100, 200, 65535} {
			for name, ask := range map[string]func(impl.Font) impl.FontResult{
				"PutPair":  func(f impl.Font) impl.FontResult { return impl.PutPair(f, pair(n, 3)) },
				"DropPair": func(f impl.Font) impl.FontResult { return impl.DropPair(f, n) },
			} {
				short, whole := withRoom(f.Pairs, markPair)
				given := impl.Font{Fallback: f.Fallback, Pairs: short}
				before := slices.Clone(whole)
				first, second := ask(given), ask(given)
				want := slices.Clone(first.Font.Pairs)
				overwrite(first.Font.Pairs, pair(1, 2))
				if !slices.Equal(whole, before) {
					t.Fatalf("%s(%v, %d) answers memory of its font", name, f, n)
				}
				if !slices.Equal(second.Font.Pairs, want) || !slices.Equal(ask(given).Font.Pairs, want) {
					t.Fatalf("answers of %s(%v, %d) share memory", name, f, n)
				}
				overwrite(whole, pair(5, 6))
				if !slices.Equal(second.Font.Pairs, want) {
					t.Fatalf("the answer of %s(%v, %d) turns with its font", name, f, n)
				}
			}
		}
	}
}

func TestCharsOfAnswersAreNew(t *testing.T) {
	for _, f := range goodFonts() {
		for g := range int64(3) {
			short, whole := withRoom(f.Pairs, markPair)
			given := impl.Font{Fallback: f.Fallback, Pairs: short}
			first, second := impl.CharsOf(given, g), impl.CharsOf(given, g)
			want := slices.Clone(first.List)
			overwrite(first.List, -9)
			if !slices.Equal(second.List, want) || !slices.Equal(impl.CharsOf(given, g).List, want) {
				t.Fatalf("answers of CharsOf(%v, %d) share memory", f, g)
			}
			overwrite(whole, pair(5, 6))
			if !slices.Equal(second.List, want) {
				t.Fatalf("the answer of CharsOf(%v, %d) turns with its font", f, g)
			}
		}
	}
}

// Whatever comes in, from however many callers, in whatever order: nothing panics, and the same call answers the same.
func TestFontsAnswerAtEveryArgument(t *testing.T) {
	fonts, numbers := allFonts(), fontNumbers()
	all := make([][]string, 3)
	var wait sync.WaitGroup
	for i := range all {
		wait.Go(func() {
			for _, f := range fonts {
				for _, n := range numbers {
					all[i] = append(all[i], fontAnswers(f, n))
				}
			}
		})
	}
	wait.Wait()
	for i, f := range slices.Backward(fonts) {
		for j, n := range slices.Backward(numbers) {
			want := fontAnswers(f, n)
			for _, one := range all {
				if one[i*len(numbers)+j] != want {
					t.Fatalf("other answers at %v, %d", f, n)
				}
			}
		}
	}
}

// A font of which an empty list and nil are the pairs is the same font.
func TestNoPairsAndNil(t *testing.T) {
	for _, n := range fontNumbers() {
		for _, fallback := range []int64{-1, 0, 9, 256} {
			if a, b := fontAnswers(impl.Font{Fallback: fallback}, n), fontAnswers(impl.Font{Fallback: fallback, Pairs: []impl.Pair{}}, n); a != b {
				t.Fatalf("with nil %s, with an empty list %s", a, b)
			}
		}
	}
}
