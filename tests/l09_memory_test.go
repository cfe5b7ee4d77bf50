package tests

import (
	"fmt"
	"slices"
	"sync"
	"testing"

	"loop.example/g00523/impl"
)

// markHold is held by no keyboard of the tests.
var markHold = hold(-7, -8)

const markText = "no text of the tests"

// allBoards are keyboards without and with a fault.
func allBoards() []impl.Keyboard {
	boards := goodKeyboards()
	for i, x := range wrongBoards() {
		if i%5 == 0 {
			boards = append(boards, x.board)
		}
	}
	return append(boards, wrongBoardsOfOne()[0].board, wrongBoardsTogether()[0].board, wrongBoardsTogether()[9].board)
}

func allTexts() [][]string {
	texts := goodTexts()
	for _, x := range allWrongTexts() {
		texts = append(texts, x.texts)
	}
	return texts
}

// keysAnswers calls every function of chapter 9 with these, and tells all answers.
func keysAnswers(list []impl.Bind, texts []string, k impl.Keyboard, key int64) string {
	turned := impl.Keyboard{Holds: k.Holds, Caps: !k.Caps, Accent: key}
	of := holding(hold(key, 1), hold(40, key))
	return fmt.Sprint(
		impl.KeyboardFault(k), impl.KeyboardFault(turned), impl.KeyboardFault(of), impl.ModsOf(k), impl.ModsOf(turned), impl.ModsOf(of), impl.TextsFault(texts),
		impl.PressKey(list, texts, k, key), impl.PressKey(list, texts, turned, 10), impl.PressKey(list, texts, of, key), impl.PressKey(nil, texts, k, key), impl.PressKey(list, nil, k, 9),
		impl.LiftKey(k, key), impl.LiftKey(turned, 1), impl.LiftKey(of, key),
		impl.SameKeyboards(k, turned), impl.SameKeyboards(k, k), impl.SameKeyboards(of, k))
}

func keysNumbers() []int64 {
	return slices.Concat([]int64{-1, 0, 1, 2, 3, 4, 5, 6, 7, 8, 9, 10, 12, 13, 39, 40, 41, 65536}, bigNumbers)
}

func TestKeyboardsStay(t *testing.T) {
	binds, wholeBinds := withRoom(pressBinds(), markBind)
	keptBinds := slices.Clone(wholeBinds)
	for i, board := range allBoards() {
		holds, wholeHolds := withRoom(board.Holds, markHold)
		keptHolds := slices.Clone(wholeHolds)
		k := impl.Keyboard{Holds: holds, Caps: board.Caps, Accent: board.Accent}
		texts, wholeTexts := withRoom(allTexts()[i%len(allTexts())], markText)
		keptTexts := slices.Clone(wholeTexts)
		for _, n := range keysNumbers() {
			keysAnswers(binds, texts, k, n)
			if !slices.Equal(wholeBinds, keptBinds) || !slices.Equal(wholeHolds, keptHolds) || !slices.Equal(wholeTexts, keptTexts) {
				t.Fatalf("binds, texts or holds of %v were changed at %d", board, n)
			}
		}
	}
}

// Binds with a fault stay as well.
func TestBindsOfKeysStay(t *testing.T) {
	for i, list := range allBinds() {
		short, whole := withRoom(list, markBind)
		kept := slices.Clone(whole)
		board := allBoards()[i%len(allBoards())]
		for _, key := range []int64{0, 1, 2, 5, 10, 40, 41} {
			keysAnswers(short, pressTexts, board, key)
		}
		if !slices.Equal(whole, kept) {
			t.Fatalf("the binds %v were changed", list)
		}
	}
}

// keyAsks are calls that answer a keyboard, of each kind of sym.
func keyAsks() []func(list []impl.Bind, texts []string, k impl.Keyboard) impl.KeyResult {
	var asks []func([]impl.Bind, []string, impl.Keyboard) impl.KeyResult
	for key := int64(1); key <= 40; key++ {
		asks = append(asks,
			func(list []impl.Bind, texts []string, k impl.Keyboard) impl.KeyResult {
				return impl.PressKey(list, texts, k, key)
			},
			func(_ []impl.Bind, _ []string, k impl.Keyboard) impl.KeyResult { return impl.LiftKey(k, key) })
	}
	return asks
}

// An answer that is overwritten turns no argument, no other answer and nothing else of its own; an argument turns no answer.
func TestKeyAnswersAreNew(t *testing.T) {
	for _, board := range goodKeyboards() {
		for i, ask := range keyAsks() {
			list, wholeList := withRoom(pressBinds(), markBind)
			texts, wholeTexts := withRoom(pressTexts, markText)
			holds, wholeHolds := withRoom(board.Holds, markHold)
			keptList, keptTexts, keptHolds := slices.Clone(wholeList), slices.Clone(wholeTexts), slices.Clone(wholeHolds)
			k := impl.Keyboard{Holds: holds, Caps: board.Caps, Accent: board.Accent}
			first, second := ask(list, texts, k), ask(list, texts, k)
			want := fmt.Sprint(second)
			overwrite(first.Bytes, 'x')
			if !slices.Equal(first.Keyboard.Holds, second.Keyboard.Holds) {
				t.Fatalf("bytes and holds of one answer of call %d at %v share memory", i, board)
			}
			overwrite(first.Keyboard.Holds, hold(11, 12))
			if !slices.Equal(wholeList, keptList) || !slices.Equal(wholeTexts, keptTexts) || !slices.Equal(wholeHolds, keptHolds) {
				t.Fatalf("call %d at %v answers memory of its arguments", i, board)
			}
			overwrite(wholeList, markBind)
			overwrite(wholeTexts, markText)
			overwrite(wholeHolds, markHold)
			if fmt.Sprint(second) != want {
				t.Fatalf("an answer of call %d at %v turns with its arguments, or with another answer", i, board)
			}
			if third := ask(pressBinds(), pressTexts, board); fmt.Sprint(third) != want {
				t.Fatalf("call %d at %v answers another time %v", i, board, third)
			}
		}
	}
}

// One goes on from a keyboard as often as one wants: the next key turns nothing of it.
func TestKeyboardGoesOnTwice(t *testing.T) {
	for _, board := range goodKeyboards() {
		for key := int64(1); key <= 40; key++ {
			begun := impl.PressKey(pressBinds(), pressTexts, board, key).Keyboard
			kept := impl.Keyboard{Holds: slices.Clone(begun.Holds), Caps: begun.Caps, Accent: begun.Accent}
			for _, next := range []int64{1, 2, 3, 4, 10, 40} {
				want := pressed(pressBinds(), pressTexts, kept, next)
				one := impl.PressKey(pressBinds(), pressTexts, begun, next)
				impl.PressKey(pressBinds(), pressTexts, begun, 41-next)
				impl.LiftKey(begun, next)
				if !sameBoard(begun, kept) || !rightKey(one, want) {
					t.Fatalf("from %v on key %d leads to %v, want %v", kept, next, one, want)
				}
			}
		}
	}
}

// keysOfAll asks all keyboards with all numbers, and with binds and texts in turn.
func keysOfAll(tell func(at int, answer string)) {
	boards, numbers, lists, texts := allBoards(), keysNumbers(), append(goodBinds(), pressBinds()), allTexts()
	for i, k := range boards {
		for j, n := range numbers {
			at := i*len(numbers) + j
			list := pressBinds()
			if at%3 == 0 {
				list = lists[at/3%len(lists)]
			}
			tell(at, keysAnswers(list, texts[at%len(texts)], k, n))
		}
	}
}

// Whatever comes in, from however many callers: nothing panics, and the same call answers the same.
func TestKeysAnswerAtEveryArgument(t *testing.T) {
	all := make([][]string, 3)
	var wait sync.WaitGroup
	for i := range all {
		wait.Go(func() {
			keysOfAll(func(_ int, answer string) { all[i] = append(all[i], answer) })
		})
	}
	wait.Wait()
	keysOfAll(func(at int, answer string) {
		for _, one := range all {
			if one[at] != answer {
				t.Fatalf("other answers at call %d: %s and %s", at, one[at], answer)
			}
		}
	})
}

func TestNoHoldsAndNil(t *testing.T) {
	for _, n := range keysNumbers() {
		for _, board := range goodKeyboards()[:8] {
			a := impl.Keyboard{Caps: board.Caps, Accent: board.Accent}
			b := impl.Keyboard{Holds: []impl.Hold{}, Caps: board.Caps, Accent: board.Accent}
			if one, other := keysAnswers(pressBinds(), nil, a, n), keysAnswers(pressBinds(), []string{}, b, n); one != other {
				t.Fatalf("with nil %s, with empty lists %s", one, other)
			}
			if one, other := keysAnswers(nil, pressTexts, a, n), keysAnswers([]impl.Bind{}, pressTexts, b, n); one != other {
				t.Fatalf("with nil %s, with empty lists %s", one, other)
			}
		}
	}
}
