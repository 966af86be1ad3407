package tests

import (
	"math"
	"slices"
	"strings"
	"testing"

	"loop.example/g00384/impl"
)

func TestNumbersOfCodes(t *testing.T) {
	got := []int64{impl.EcFine, impl.EcFixed, impl.EcBroken, impl.EcForm, impl.CodeBits, impl.MaxWord}
	if want := []int64{0, 1, 2, 3, 13, 8191}; !slices.Equal(got, want) {
		t.Error(got, "not", want)
	}
}

var noWords = []int64{-1, 8192, -8191, 16383, math.MinInt64, math.MaxInt64}

var wordTable = [][2]int64{
	{0, 0}, {1, 15}, {2, 51}, {3, 60}, {4, 85}, {8, 150}, {15, 255}, {16, 771}, {32, 1285},
	{64, 2310}, {65, 2313}, {66, 2357}, {127, 4095}, {128, 4369}, {254, 7905}, {255, 7918},
}

func TestWordsOfSomeBytes(t *testing.T) {
	for _, r := range wordTable {
		if got := impl.EccOf(r[0]); got != r[1] {
			t.Error("the word of", r[0], "is", got, "not", r[1])
		}
	}
	for _, b := range []int64{-1, 256, 257, -256, 511, 512, math.MinInt64, math.MaxInt64} {
		if got := impl.EccOf(b); got != -1 {
			t.Error(b, "is no byte, but has the word", got)
		}
	}
}

// setBy are the places of the bits that are set: by division, not by shifts.
func setBy(word int64) []int64 {
	var places []int64
	for place := int64(0); word > 0; place++ {
		if word%2 == 1 {
			places = append(places, place)
		}
		word /= 2
	}
	return places
}

func syndromeBy(word int64) int64 {
	var all int64
	for _, place := range setBy(word) {
		all ^= place
	}
	return all
}

var heldPlaces = []int64{3, 5, 6, 7, 9, 10, 11, 12}

func byteBy(word int64) int64 {
	var b int64
	for at, place := range heldPlaces {
		if slices.Contains(setBy(word), place) {
			b += int64(1) << at
		}
	}
	return b
}

// wordsBy looks at all words for those that are some byte's, and answers them
// at the bytes' places.
func wordsBy(t *testing.T) []int64 {
	words := slices.Repeat([]int64{-1}, 256)
	for word := range int64(8192) {
		if syndromeBy(word) != 0 || len(setBy(word))%2 != 0 {
			continue
		}
		b := byteBy(word)
		if words[b] != -1 {
			t.Fatal(b, "has two words")
		}
		words[b] = word
	}
	return words
}

func TestWordsOfAllBytes(t *testing.T) {
	for b, want := range wordsBy(t) {
		got := impl.EccOf(int64(b))
		if want == -1 || got != want {
			t.Error("the word of", b, "is", got, "not", want)
		}
		if impl.SyndromeOf(got) != 0 {
			t.Error("the word of", b, "has the syndrome", impl.SyndromeOf(got))
		}
		if read, code := impl.EccRead(got); read != int64(b) || code != impl.EcFine {
			t.Error("the word of", b, "is read as", read, code)
		}
	}
}

func TestSyndromes(t *testing.T) {
	table := [][2]int64{{0, 0}, {1, 0}, {2, 1}, {3, 1}, {4, 2}, {8, 3}, {14, 0}, {256, 8}, {4096, 12}, {4098, 13}, {4100, 14}, {384, 15}, {8191, 12}}
	for _, r := range table {
		if got := impl.SyndromeOf(r[0]); got != r[1] {
			t.Error("the syndrome of", r[0], "is", got, "not", r[1])
		}
	}
	for word := range int64(8192) {
		if got, want := impl.SyndromeOf(word), syndromeBy(word); got != want {
			t.Error("the syndrome of", word, "is", got, "not", want)
		}
	}
	for _, word := range noWords {
		if got := impl.SyndromeOf(word); got != -1 {
			t.Error(word, "is no word, but has the syndrome", got)
		}
	}
}

type wordRead struct {
	word int64
	b    int64
	code int64
}

func checkRead(t *testing.T, r wordRead) {
	t.Helper()
	if b, code := impl.EccRead(r.word); b != r.b || code != r.code {
		t.Error(r.word, "is read as", b, code, "not", r.b, r.code)
	}
}

func TestSomeWordsRead(t *testing.T) {
	table := []wordRead{
		{0, 0, impl.EcFine}, {15, 1, impl.EcFine}, {7918, 255, impl.EcFine},
		{14, 1, impl.EcFixed}, {13, 1, impl.EcFixed}, {7, 1, impl.EcFixed}, {1, 0, impl.EcFixed}, {4096, 0, impl.EcFixed},
		{3, 0, impl.EcBroken}, {12, 0, impl.EcBroken}, {4097, 0, impl.EcBroken},
		// An odd number of bits, with the syndromes 13, 14 and 15: no bit is there.
		{4099, 0, impl.EcBroken}, {4101, 0, impl.EcBroken}, {385, 0, impl.EcBroken},
		// An even number of bits, with the same syndromes.
		{4098, 0, impl.EcBroken}, {4100, 0, impl.EcBroken}, {384, 0, impl.EcBroken},
		{8191, 127, impl.EcFixed}, {8190, 0, impl.EcBroken},
	}
	for _, r := range table {
		checkRead(t, r)
	}
	for _, word := range noWords {
		checkRead(t, wordRead{word, 0, impl.EcForm})
	}
}

// apartBy is the number of bits in which two words differ.
func apartBy(a int64, b int64) int { return len(setBy(a ^ b)) }

// readBy looks for the byte whose word is next to that one.
func readBy(words []int64, word int64) wordRead {
	for b, right := range words {
		switch apartBy(right, word) {
		case 0:
			return wordRead{word, int64(b), impl.EcFine}
		case 1:
			return wordRead{word, int64(b), impl.EcFixed}
		}
	}
	return wordRead{word, 0, impl.EcBroken}
}

func TestAllWordsRead(t *testing.T) {
	words := wordsBy(t)
	var codes [3]int
	var farOut int
	for word := range int64(8192) {
		want := readBy(words, word)
		checkRead(t, want)
		codes[want.code]++
		if syndromeBy(word) >= 13 && len(setBy(word))%2 == 1 {
			farOut++
			checkRead(t, wordRead{word, 0, impl.EcBroken})
		}
	}
	if codes != [3]int{256, 256 * 13, 8192 - 256*14} || farOut != 3*256 {
		t.Error("read as fine, fixed, broken:", codes, "with no bit there:", farOut)
	}
}

// Promise 7.
func TestOneBitTurnedIsMendedTwoAreTold(t *testing.T) {
	for b := range int64(256) {
		word := impl.EccOf(b)
		for one := range int64(13) {
			hurt, ok := impl.Flipped(word, one)
			if !ok {
				t.Fatal(word, "has no bit", one)
			}
			checkRead(t, wordRead{hurt, b, impl.EcFixed})
			for two := range one {
				broken, ok := impl.Flipped(hurt, two)
				if !ok {
					t.Fatal(hurt, "has no bit", two)
				}
				checkRead(t, wordRead{broken, 0, impl.EcBroken})
			}
		}
	}
}

func TestFlipped(t *testing.T) {
	table := [][3]int64{{0, 0, 1}, {1, 0, 0}, {0, 12, 4096}, {8191, 12, 4095}, {8191, 0, 8190}, {15, 3, 7}, {7, 3, 15}, {15, 4, 31}}
	for _, r := range table {
		if got, ok := impl.Flipped(r[0], r[1]); !ok || got != r[2] {
			t.Error(r, "is", got, ok)
		}
	}
	for word := range int64(8192) {
		for bit := range int64(13) {
			got, ok := impl.Flipped(word, bit)
			if !ok || !slices.Equal(setBy(word^got), []int64{bit}) {
				t.Fatal("bit", bit, "of", word, "turned is", got, ok)
			}
		}
	}
}

func TestFlippedOfNothing(t *testing.T) {
	noBits := []int64{-1, 13, 14, 62, 63, 64, 65, math.MinInt64, math.MaxInt64}
	for _, bit := range noBits {
		for _, word := range append([]int64{0, 15, 8191}, noWords...) {
			if got, ok := impl.Flipped(word, bit); ok || got != 0 {
				t.Error("bit", bit, "of", word, "is", got, ok)
			}
		}
	}
	for _, word := range noWords {
		for bit := range int64(13) {
			if got, ok := impl.Flipped(word, bit); ok || got != 0 {
				t.Error("bit", bit, "of", word, "is", got, ok)
			}
		}
	}
}

func TestCodesOfSomeValues(t *testing.T) {
	table := []struct {
		value int64
		words []int64
	}{
		{0, []int64{0, 0, 0}},
		{1, []int64{15, 0, 0}},
		{255, []int64{7918, 0, 0}},
		{256, []int64{0, 15, 0}},
		{65535, []int64{7918, 7918, 0}},
		{65536, []int64{0, 0, 15}},
		{999999, []int64{1785, 2357, 255}},
		{1000000, []int64{2310, 2357, 255}},
	}
	for _, r := range table {
		if got, ok := impl.CodeOf(r.value); !ok || !slices.Equal(got, r.words) {
			t.Error("the words of", r.value, "are", got, ok)
		}
		if got, code := impl.ReadCode(r.words); got != r.value || code != impl.EcFine {
			t.Error(r.words, "are read as", got, code)
		}
	}
	for _, value := range []int64{-1, 1000001, 16777216, math.MinInt64, math.MaxInt64} {
		if got, ok := impl.CodeOf(value); ok || len(got) != 0 {
			t.Error(value, "is no value, but has the words", got, ok)
		}
	}
}

func TestValuesThereAndBack(t *testing.T) {
	words := wordsBy(t)
	for value := int64(0); value <= 1000000; value += 7 {
		l, ok := impl.CodeOf(value)
		want := []int64{words[value%256], words[value/256%256], words[value/65536]}
		if !ok || !slices.Equal(l, want) {
			t.Fatal("the words of", value, "are", l, ok, "not", want)
		}
		if got, code := impl.ReadCode(l); got != value || code != impl.EcFine {
			t.Fatal(l, "are read as", got, code, "not", value)
		}
	}
}

// Promise 7, of three words: each may have one bit turned, and still the
// value is read; when one of them has two it is not.
func TestValuesWithTurnedBits(t *testing.T) {
	d := draw{state: 71}
	for range 20000 {
		value := d.upTo(1000001)
		l, _ := impl.CodeOf(value)
		want := int64(impl.EcFine)
		for at := range l {
			turns := d.upTo(3)
			if d.oneIn(2) {
				turns = min(turns, 1)
			}
			bit := d.upTo(13)
			if turns >= 1 {
				l[at] ^= 1 << bit
			}
			if turns >= 2 {
				l[at] ^= 1 << ((bit + 1 + d.upTo(12)) % 13)
			}
			want = max(want, turns)
		}
		wantValue := value
		if want == impl.EcBroken {
			wantValue = 0
		}
		if got, code := impl.ReadCode(l); got != wantValue || code != want {
			t.Fatal(l, "of", value, "are read as", got, code, "not", wantValue, want)
		}
	}
}

type codeRead struct {
	words []int64
	value int64
	code  int64
}

func TestListsOfWordsRead(t *testing.T) {
	table := []codeRead{
		{nil, 0, impl.EcForm},
		{[]int64{}, 0, impl.EcForm},
		{[]int64{15}, 0, impl.EcForm},
		{[]int64{15, 0}, 0, impl.EcForm},
		{[]int64{15, 0, 0, 0}, 0, impl.EcForm},
		{[]int64{15, 0, 0}, 1, impl.EcFine},
		{[]int64{15, 3, 0, 0}, 0, impl.EcForm},
		{[]int64{3, 0}, 0, impl.EcForm},
		{[]int64{14, 0, 0}, 1, impl.EcFixed},
		{[]int64{15, 1, 0}, 1, impl.EcFixed},
		{[]int64{15, 0, 4096}, 1, impl.EcFixed},
		{[]int64{14, 4096, 7}, 65537, impl.EcFixed},
		{[]int64{3, 0, 0}, 0, impl.EcBroken},
		{[]int64{15, 3, 0}, 0, impl.EcBroken},
		{[]int64{15, 0, 3}, 0, impl.EcBroken},
		{[]int64{14, 3, 0}, 0, impl.EcBroken},
		{[]int64{3, 14, 0}, 0, impl.EcBroken},
		{[]int64{15, 3, 14}, 0, impl.EcBroken},
		{[]int64{3, -1, 15}, 0, impl.EcForm},
		{[]int64{-1, 3, 15}, 0, impl.EcForm},
		{[]int64{3, 14, 8192}, 0, impl.EcForm},
		{[]int64{8192, 14, 3}, 0, impl.EcForm},
		{[]int64{-1, 0, 7918}, 0, impl.EcForm},
		// 1000000 and one more, then with a bit turned.
		{[]int64{2310, 2357, 255}, 1000000, impl.EcFine},
		{[]int64{2313, 2357, 255}, 0, impl.EcBroken},
		{[]int64{2310, 2357, 254}, 1000000, impl.EcFixed},
		{[]int64{2313, 2357, 254}, 0, impl.EcBroken},
		{[]int64{7918, 7918, 7918}, 0, impl.EcBroken},
		{[]int64{0, 0, 771}, 0, impl.EcBroken},
		{[]int64{0, 0, 0}, 0, impl.EcFine},
		{[]int64{1, 1, 1}, 0, impl.EcFixed},
	}
	for _, r := range table {
		checkCode(t, r)
	}
}

func checkCode(t *testing.T, r codeRead) {
	t.Helper()
	if value, code := impl.ReadCode(r.words); value != r.value || code != r.code {
		t.Error(r.words, "are read as", value, code, "not", r.value, r.code)
	}
}

// codeBy goes by the words' letters: f fine, x fixed, b broken, n none.
func codeBy(letters string, value int64) (int64, int64) {
	switch {
	case len(letters) != 3 || strings.Contains(letters, "n"):
		return 0, impl.EcForm
	case strings.Contains(letters, "b") || value > 1000000:
		return 0, impl.EcBroken
	case strings.Contains(letters, "x"):
		return value, impl.EcFixed
	}
	return value, impl.EcFine
}

// All lists of up to four of some words of each kind.
func TestAllListsOfSomeWords(t *testing.T) {
	kinds := []struct {
		word   int64
		letter string
		b      int64
	}{
		{15, "f", 1}, {255, "f", 15}, {771, "f", 16}, {14, "x", 1}, {254, "x", 15}, {3, "b", 0}, {4099, "b", 0}, {-1, "n", 0}, {8192, "n", 0},
	}
	var check func(words []int64, letters string, value int64)
	check = func(words []int64, letters string, value int64) {
		wantValue, wantCode := codeBy(letters, value)
		checkCode(t, codeRead{words, wantValue, wantCode})
		if len(words) == 4 {
			return
		}
		for _, k := range kinds {
			check(append(slices.Clone(words), k.word), letters+k.letter, value+k.b<<(8*len(words)))
		}
	}
	check(nil, "", 0)
}

func TestCodesMemory(t *testing.T) {
	for _, words := range [][]int64{{15, 0, 15}, {14, 0, 15}, {3, 0, 15}, {-1, 0, 15}, {15, 0}, {15, 0, 15, 0}, nil} {
		given := roomy(words, spareMark)
		before := slices.Clone(given[:cap(given)])
		value, code := impl.ReadCode(given)
		if !slices.Equal(given[:cap(given)], before) {
			t.Error("ReadCode wrote into", words, ":", given[:cap(given)])
		}
		if again, againCode := impl.ReadCode(given); again != value || againCode != code {
			t.Error("ReadCode answers otherwise when asked again:", again, againCode)
		}
	}
	for _, value := range []int64{0, 1, 65537, 1000000} {
		first, _ := impl.CodeOf(value)
		want := slices.Clone(first)
		second, _ := impl.CodeOf(value)
		checkApart(t, "CodeOf", []any{first, second}, nil)
		first[0], first[1], first[2] = spareMark, spareMark, spareMark
		if third, ok := impl.CodeOf(value); !ok || !slices.Equal(second, want) || !slices.Equal(third, want) {
			t.Error("CodeOf answers", second, third, "not", want)
		}
	}
}
