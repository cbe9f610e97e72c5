package tests

import (
	"fmt"
	"regexp"
	"slices"
	"strings"
	"testing"

	"loop.example/telemetryagent/impl"
)

// itemText matches exactly the texts of items.
var itemText = func() *regexp.Regexp {
	const number = `(0|[1-9][0-9]?|1[0-9][0-9]|2[0-4][0-9]|25[0-5])`
	return regexp.MustCompile(`\A[0-2] ` + number + `( ` + number + `){0,8}\z`)
}()

// writeNumbers returns numbers in decimal, separated by spaces.
func writeNumbers(list ...int) string {
	return strings.Trim(fmt.Sprint(list), "[]")
}

// item returns an item with a body.
func item(class int, key int, body ...int) impl.Item {
	return impl.Item{Class: class, Key: key, Body: body}
}

// itemByHand returns the item with a text, and whether there is one.
func itemByHand(s string) (impl.Item, bool) {
	if !itemText.MatchString(s) {
		return impl.Item{}, false
	}
	var numbers []int
	for _, word := range strings.Split(s, " ") {
		n := 0
		for _, digit := range word {
			n = 10*n + int(digit-'0')
		}
		numbers = append(numbers, n)
	}
	return item(numbers[0], numbers[1], numbers[2:]...), true
}

// nearTexts returns the texts that differ from one by a single byte, or by a
// sign that is put in, and those that have it twice.
func nearTexts(s string) []string {
	signs := []string{"0", "1", "2", "3", "5", "6", "9", " ", "-", "+", "_", ".", ",", ";", "x", "e", "\t", "\n", "\r", "\v", "\x00", "\u00a0", "\u2003", "\u0661", "\uff11", "\xff"}
	list := []string{s, s + s, s + " " + s, s + "\n" + s, strings.ReplaceAll(s, " ", ""), strings.ReplaceAll(s, " ", "\t"), strings.ReplaceAll(s, " ", ", ")}
	for i := range len(s) + 1 {
		for _, sign := range signs {
			list = append(list, s[:i]+sign+s[i:])
			if i < len(s) {
				list = append(list, s[:i]+sign+s[i+1:])
			}
		}
		if i < len(s) {
			list = append(list, s[:i]+s[i+1:], s[:i], s[i:])
		}
	}
	return list
}

// wantNoItem reports an error if there is an item with a text.
func wantNoItem(t *testing.T, s string) {
	t.Helper()
	if x, ok := impl.ParseItem(s); ok || x.Class != 0 || x.Key != 0 || x.Body != nil {
		t.Errorf("ParseItem of %q = %v, %t", s, x, ok)
	}
}

// wantParsed reports an error if ParseItem does not do what itemText says, or
// accepts a text that is not that of the item.
func wantParsed(t *testing.T, s string) {
	t.Helper()
	want, valid := itemByHand(s)
	if !valid {
		wantNoItem(t, s)
		return
	}
	x, ok := impl.ParseItem(s)
	if !ok || !sameItem(x, want) || !impl.ValidItem(x) {
		t.Errorf("ParseItem of %q = %v, %t", s, x, ok)
	}
	if text := impl.FormatItem(x); text != s {
		t.Errorf("FormatItem of ParseItem of %q = %q", s, text)
	}
}

// P120, P122: texts of items, written by hand.
func TestItemTextsByHand(t *testing.T) {
	for _, c := range []struct {
		x    impl.Item
		text string
	}{
		{impl.Item{}, "0 0"},
		{item(0, 0, 0), "0 0 0"},
		{item(2, 255), "2 255"},
		{item(1, 7, 9, 255), "1 7 9 255"},
		{item(0, 10, 100, 20, 200), "0 10 100 20 200"},
		{item(2, 101, 0, 10, 0), "2 101 0 10 0"},
		{item(1, 0, 0, 0, 0, 0, 0, 0, 0, 0), "1 0 0 0 0 0 0 0 0 0"},
		{item(2, 255, 255, 255, 255, 255, 255, 255, 255, 255), "2 255 255 255 255 255 255 255 255 255"},
		{item(0, 1, 2, 3, 4, 5, 6, 7, 8, 9), "0 1 2 3 4 5 6 7 8 9"},
		{item(1, 99, 100, 199, 249, 250, 251), "1 99 100 199 249 250 251"},
	} {
		if text := impl.FormatItem(c.x); text != c.text {
			t.Errorf("FormatItem of %v = %q", c.x, text)
		}
		if x, ok := impl.ParseItem(c.text); !ok || !sameItem(x, c.x) {
			t.Errorf("ParseItem of %q = %v, %t", c.text, x, ok)
		}
	}
}

// P120, P122, P175.
func TestTextsOfItemsLoseNothing(t *testing.T) {
	for _, x := range validItems() {
		text := impl.FormatItem(x)
		if want := writeNumbers(join([]int{x.Class, x.Key}, x.Body)...); text != want {
			t.Errorf("FormatItem of %v = %q, not %q", x, text, want)
		}
		if y, ok := impl.ParseItem(text); !ok || !sameItem(x, y) {
			t.Errorf("ParseItem of FormatItem of %v = %v, %t", x, y, ok)
		}
		if n := strings.Count(text, " "); n != len(x.Body)+1 {
			t.Errorf("FormatItem of %v = %q has %d spaces", x, text, n)
		}
		bare := impl.FormatItem(item(x.Class, x.Key))
		if !strings.HasPrefix(text, bare) || bare != writeNumbers(x.Class, x.Key) {
			t.Errorf("FormatItem of %v = %q, and without a body %q", x, text, bare)
		}
	}
	for class := range impl.Classes {
		for n := range impl.MaxByte + 1 {
			for _, x := range []impl.Item{item(class, n), item(class, 0, n), item(class, 255, 1, n, 2)} {
				if y, ok := impl.ParseItem(impl.FormatItem(x)); !ok || !sameItem(x, y) {
					t.Errorf("ParseItem of FormatItem of %v = %v, %t", x, y, ok)
				}
			}
		}
	}
}

func TestInvalidItemsHaveNoText(t *testing.T) {
	for name, x := range invalidItems() {
		if text := impl.FormatItem(x); text != "" {
			t.Errorf("%s: FormatItem of %v = %q", name, x, text)
		}
		wantNoItem(t, writeNumbers(join([]int{x.Class, x.Key}, x.Body)...))
	}
}

// P121: texts that are almost those of items.
func TestTextsOfNoItem(t *testing.T) {
	for _, s := range []string{
		"", " ", "  ", "\n", "0", "1", "1 ", " 1", "0  0", " 0 0", "0 0 ", "0 0  ", "0 0  0", "0 0 0 ",
		"00 0", "0 00", "000 0", "0 000", "01 7", "1 07", "1 7 00", "1 7 09", "1 7 010", "1 7 0255", "1 7 9 00",
		"-0 0", "0 -0", "0 0 -0", "-1 0", "0 -1", "0 0 -1", "+1 7", "1 +7", "1 7 +9", "1 7 -9", "1 7 - 9",
		"3 0", "3 1", "9 0", "10 0", "1 256", "1 260", "1 300", "1 1000", "1 7 256", "1 7 9 256", "1 7 256 9",
		"1 7 0x9", "1 7 x", "1 7 9x", "1 7 1_0", "1 7 1.0", "1 7 1e1", "1 7 0b1", "1 7 0o7", "a b", "one seven",
		"1,7", "1, 7", "1;7", "1 7;", "1 7,9", "1 7\n", "1 7\r\n", "\n1 7", "1\t7", "1 \t7", "1\n7", "1\v7", "1\f7",
		"1\u00a07", "1\u20037", "\u0661 7", "1 \uff17", "1 7\x00", "\x001 7", "1 7 \xff", "1\x007", "\ufeff1 7",
		"[1 7]", "{1 7}", "\"1 7\"", "(1 7 9)", "1 7 []", "put 1 7",
		"0 0 1 1 1 1 1 1 1 1 1", "0 0 0 0 0 0 0 0 0 0 0", "0 0 0 0 0 0 0 0 0 0 ", "0 0 0 0 0 0 0 0 0 0 x",
		"1 18446744073709551623", "1 9223372036854775808", "1 9223372036854775807", "1 4294967303", "1 65543", "1 263",
		"18446744073709551617 7", "4294967297 7", "257 7", "1 7 18446744073709551625", "1 7 -18446744073709551607", "1 -249",
		"1 7 " + strings.Repeat("9", 1000), "1 7 " + strings.Repeat("0", 1000), "1 7" + strings.Repeat(" 1", 1000), strings.Repeat(" ", 1000),
	} {
		wantNoItem(t, s)
	}
}

// P121: of all short texts of some signs.
func TestShortTextsOfItems(t *testing.T) {
	texts, accepted := []string{""}, 0
	for range 6 {
		var longer []string
		for _, s := range texts {
			for _, sign := range []string{" ", "0", "1", "2", "3", "-"} {
				longer = append(longer, s+sign)
			}
		}
		for _, s := range longer {
			wantParsed(t, s)
			if itemText.MatchString(s) {
				accepted++
			}
		}
		texts = longer
	}
	if accepted < 400 {
		t.Errorf("only %d texts of items", accepted)
	}
}

// P120, P121: of texts near to those of items.
func TestItemsHaveOneText(t *testing.T) {
	for _, x := range validItems() {
		for _, s := range nearTexts(writeNumbers(join([]int{x.Class, x.Key}, x.Body)...)) {
			wantParsed(t, s)
		}
	}
}

// P123: texts of sums, written by hand.
func TestSumTextsByHand(t *testing.T) {
	for _, c := range []struct {
		list []impl.Sum
		text string
	}{
		{nil, ""},
		{sums(), ""},
		{equalSums(0, 8, 1, 0)[:0], ""},
		{sums(sum(0, 1, 0, 0, 0)), "0 1 0 0 0"},
		{sums(sum(3, 2, 9, 4, 5)), "3 2 9 4 5"},
		{sums(sum(255, 100, 25500, 255, 255)), "255 100 25500 255 255"},
		{sums(sum(3, 2, 9, 4, 5), sum(255, 1, 0, 0, 0)), "3 2 9 4 5; 255 1 0 0 0"},
		{sums(sum(0, 1, 7, 0, 10), sum(1, 10, 100, 10, 20), sum(20, 1, 5, 5, 5)), "0 1 7 0 10; 1 10 100 10 20; 20 1 5 5 5"},
		{equalSums(10, 8, 1, 0), "10 1 0 0 0; 11 1 0 0 0; 12 1 0 0 0; 13 1 0 0 0; 14 1 0 0 0; 15 1 0 0 0; 16 1 0 0 0; 17 1 0 0 0"},
	} {
		if text := impl.FormatSums(c.list); text != c.text {
			t.Errorf("FormatSums of %v = %q", c.list, text)
		}
	}
}

// P123.
func TestTextsOfSumsHaveFiveNumbersEach(t *testing.T) {
	for _, list := range moreSums() {
		text := impl.FormatSums(list)
		var parts []string
		for _, x := range list {
			parts = append(parts, fmt.Sprintf("%d %d %d %d %d", x.Key, x.Count, x.All, x.Least, x.Most))
		}
		if text != strings.Join(parts, "; ") {
			t.Errorf("FormatSums of %v = %q", list, text)
		}
		if len(list) == 0 {
			continue
		}
		if strings.Count(text, ";") != len(list)-1 || strings.Count(text, " ") != 5*len(list)-1 {
			t.Errorf("FormatSums of %v = %q", list, text)
		}
	}
}

func TestInvalidSumsHaveNoText(t *testing.T) {
	for name, list := range invalidSums() {
		if text := impl.FormatSums(list); text != "" {
			t.Errorf("%s: FormatSums of %v = %q", name, list, text)
		}
	}
}

// P15, P16: texts of arenas, written by hand.
func TestArenaTextsByHand(t *testing.T) {
	for _, c := range []struct {
		a    impl.Arena
		text string
	}{
		{impl.Arena{}, ""},
		{row(1), "."},
		{row(8), "........"},
		{row(1, 0, 1), "#"},
		{row(8, 1, 2, 2, 1), ".##..#.."},
		{row(8, 0, 8), "########"},
		{row(8, 0, 3, 0, 2), "#####..."},
		{row(8, 3, 5), "...#####"},
		{row(8, 7, 1), ".......#"},
		{row(9, 1, 1, 1, 1, 1, 1, 1, 1), ".#.#.#.#."},
		{row(64, 0, 1, 62, 1), "#" + strings.Repeat(".", 62) + "#"},
	} {
		if text := impl.ArenaText(c.a); text != c.text {
			t.Errorf("ArenaText of %v = %q", c.a, text)
		}
	}
}

// longestRow returns how many points there are in a row at most.
func longestRow(text string) int {
	longest := 0
	for _, points := range strings.Split(text, "#") {
		longest = max(longest, len(points))
	}
	return longest
}

// P15, P16.
func TestArenaTextsShowPlacesAndGaps(t *testing.T) {
	for _, a := range validArenas() {
		text := impl.ArenaText(a)
		want := ""
		for _, used := range usedOf(a) {
			if used {
				want += "#"
			} else {
				want += "."
			}
		}
		if text != want {
			t.Errorf("ArenaText of %v = %q, not %q", a, text, want)
		}
		used, gap := impl.UsedPlaces(a), impl.LargestGap(a)
		if used != strings.Count(text, "#") || used > a.Size {
			t.Errorf("%q, and UsedPlaces = %d", text, used)
		}
		if gap != longestRow(text) || used+gap > a.Size {
			t.Errorf("%q, and LargestGap = %d", text, gap)
		}
	}
	for size := range impl.MaxArena + 1 {
		if text := impl.ArenaText(impl.Arena{Size: size}); text != strings.Repeat(".", size) {
			t.Errorf("ArenaText of an arena of %d = %q", size, text)
		}
	}
}

// P124.
func TestTextsOfCompactArenas(t *testing.T) {
	for _, a := range validArenas() {
		b, ok := impl.CompactArena(a)
		used := impl.UsedPlaces(a)
		text := impl.ArenaText(b)
		if want := strings.Repeat("#", used) + strings.Repeat(".", a.Size-used); !ok || text != want {
			t.Errorf("ArenaText of CompactArena of %v = %q, not %q", a, text, want)
		}
	}
}

// P13: by the texts before and after.
func TestTheLeastPlaceIsTaken(t *testing.T) {
	for _, a := range validArenas() {
		before := impl.ArenaText(a)
		for size := 1; size <= a.Size; size++ {
			name := newName(a)
			b, ok := impl.AllocBlock(a, name, size)
			at := strings.Index(before, strings.Repeat(".", size))
			if !ok {
				if at >= 0 && len(a.Blocks) < impl.MaxBlocks {
					t.Errorf("AllocBlock of %d in %q fails", size, before)
				}
				continue
			}
			if !slices.Contains(b.Blocks, impl.Block{Name: name, At: at, Size: size}) {
				t.Errorf("AllocBlock of %d in %q = %v", size, before, b)
			}
			want := before[:at] + strings.Repeat("#", size) + before[at+size:]
			if after := impl.ArenaText(b); after != want {
				t.Errorf("AllocBlock of %d in %q = %q, not %q", size, before, after, want)
			}
		}
	}
}

func TestInvalidArenasHaveNoText(t *testing.T) {
	for name, a := range invalidArenas() {
		if text := impl.ArenaText(a); text != "" {
			t.Errorf("%s: ArenaText of %v = %q", name, a, text)
		}
	}
}

func TestTextsShareNoMemory(t *testing.T) {
	for range 2 {
		x := impl.Item{Class: 1, Key: 7, Body: spare([]int{9, 255})}
		list := spare(sums(sum(3, 2, 9, 4, 5), sum(255, 1, 0, 0, 0)))
		a := impl.Arena{Size: 8, Blocks: spare(row(8, 1, 2, 2, 1).Blocks)}
		texts := []string{impl.FormatItem(x), impl.FormatSums(list), impl.ArenaText(a)}
		if !slices.Equal(texts, []string{"1 7 9 255", "3 2 9 4 5; 255 1 0 0 0", ".##..#.."}) {
			t.Errorf("a text is kept: %q", texts)
		}
		if !sameItem(x, item(1, 7, 9, 255)) || !slices.Equal(list, sums(sum(3, 2, 9, 4, 5), sum(255, 1, 0, 0, 0))) || !sameArena(a, row(8, 1, 2, 2, 1)) {
			t.Errorf("an argument is changed: %v, %v, %v", x, list, a)
		}
		if !zeros(behind(x.Body)) || !zeros(behind(list)) || !zeros(behind(a.Blocks)) {
			t.Errorf("an argument is changed behind its end: %v, %v, %v", x, list, a)
		}
		y, ok := impl.ParseItem("1 7 9 255")
		if !ok || !sameItem(x, y) {
			t.Errorf("ParseItem is kept: %v, %t", y, ok)
		}
		overwrite(y.Body, 77)
	}
}
