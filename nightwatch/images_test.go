package nightwatch

import (
	"math"
	"strings"
	"testing"

	"nightwatch/api"
)

func mustBuild(t *testing.T, code string, number int) string {
	t.Helper()
	image, errno := Build(code, number)
	if errno != api.OK {
		t.Fatalf("Build(%q, %d): error %d", code, number, errno)
	}
	return image
}

func byteSum(text string) int {
	sum := 0
	for _, b := range []byte(text) {
		sum += int(b)
	}
	return sum
}

// withByte is the text with another byte at one place.
func withByte(text string, at int, b byte) string {
	bytes := []byte(text)
	bytes[at] = b
	return string(bytes)
}

// P3: the document's examples.
func TestBuildExamples(t *testing.T) {
	if got, want := mustBuild(t, "", 0), "\xb0"+strings.Repeat("\x00", 62)+"\xf5"; got != want {
		t.Errorf("the empty program: %q, want %q", got, want)
	}
	if got, want := mustBuild(t, "\x10\x82", 7), "\xb0\x07\x10\x82"+strings.Repeat("\x00", 59)+"\x5c"; got != want {
		t.Errorf("the program that jumps to itself: %q, want %q", got, want)
	}
}

// P3: each part of the image, at every length and at each number.
func TestBuildParts(t *testing.T) {
	fills := []string{"\x00", "\x01", "x", "\x7f", "\x80", "\xb0", "\xff", "\u00e9", "\u20ac"}
	for _, fill := range fills {
		for size := 0; size <= api.MaxCode; size++ {
			code := strings.Repeat(fill, api.MaxCode)[:size]
			for number := 0; number <= 255; number++ {
				checkParts(t, mustBuild(t, code, number), code, number)
			}
		}
	}
}

func checkParts(t *testing.T, image string, code string, number int) {
	t.Helper()
	if len(image) != 64 {
		t.Fatalf("Build(%q, %d): %d bytes", code, number, len(image))
	}
	if want := "\xb0" + string([]byte{byte(number)}) + code; image[:2+len(code)] != want {
		t.Errorf("Build(%q, %d) begins %q", code, number, image[:2+len(code)])
	}
	if rest := image[2+len(code) : 63]; strings.Trim(rest, "\x00") != "" {
		t.Errorf("Build(%q, %d): behind the program %q", code, number, rest)
	}
	if byteSum(image)%256 != 0xA5 || !Valid(image) {
		t.Errorf("Build(%q, %d) is not valid: %q", code, number, image)
	}
}

// P3, P1: the errors, their order, and nothing beside them.
func TestBuildErrors(t *testing.T) {
	full := strings.Repeat("\xff", 61)
	long := full + "\x00"
	huge := strings.Repeat("\x00", 1<<20)
	cases := []struct {
		code   string
		number int
		want   api.Errno
	}{
		{full, 0, api.OK},
		{full, 255, api.OK},
		{long, 0, api.ErrLong},
		{long, 255, api.ErrLong},
		{huge, 7, api.ErrLong},
		{strings.Repeat("\u00e9", 31), 7, api.ErrLong}, // 31 runes, but 62 bytes
		{"", -1, api.ErrPlace},
		{"", 256, api.ErrPlace},
		{"\x10\x82", -256, api.ErrPlace},
		{"\x10\x82", 256 + 7, api.ErrPlace},
		{full, -1, api.ErrPlace},
		{full, 256, api.ErrPlace},
		{full, math.MaxInt, api.ErrPlace},
		{full, math.MinInt, api.ErrPlace},
		{long, -1, api.ErrLong},
		{long, 256, api.ErrLong},
		{huge, math.MinInt, api.ErrLong},
	}
	for _, c := range cases {
		image, errno := Build(c.code, c.number)
		if errno != c.want {
			t.Errorf("Build of %d bytes, %d: error %d, want %d", len(c.code), c.number, errno, c.want)
		}
		if errno != api.OK && image != "" {
			t.Errorf("Build of %d bytes, %d: %q beside an error", len(c.code), c.number, image)
		}
	}
}

// P4: of all bytes that may stand at a place, one alone makes the image valid.
func TestValidEachByte(t *testing.T) {
	image := mustBuild(t, "\x02\xc6\x03\xc5\x10\x82", 200)
	for at := range len(image) {
		for b := range 256 {
			changed := withByte(image, at, byte(b))
			if got, want := Valid(changed), changed == image; got != want {
				t.Errorf("byte %d is %#x: Valid is %t, want %t", at, b, got, want)
			}
		}
	}
}

// P4: the first byte must be right even if the sum is, and the other way round.
func TestValidMarkAndSum(t *testing.T) {
	image := mustBuild(t, "\x01\x02", 9)
	for b := range 256 {
		changed := withByte(image, 0, byte(b))
		changed = withByte(changed, 63, image[63]+0xB0-byte(b))
		if byteSum(changed)%256 != 0xA5 {
			t.Fatalf("the test's own sum is wrong: %q", changed)
		}
		if got, want := Valid(changed), b == 0xB0; got != want {
			t.Errorf("first byte %#x with the right sum: %t, want %t", b, got, want)
		}
	}
	// No byte but the first has a fixed place: 0xF5 may stand anywhere behind it.
	for at := 1; at < 64; at++ {
		moved := withByte("\xb0"+strings.Repeat("\x00", 63), at, 0xF5)
		if !Valid(moved) {
			t.Errorf("0xF5 at %d: not valid", at)
		}
	}
}

// P4: a text of another length is no image, even with the right first byte and sum.
func TestValidLength(t *testing.T) {
	for size := range 300 {
		text := ""
		switch {
		case size == 1:
			text = "\xa5"
		case size > 1:
			text = "\xb0" + strings.Repeat("\x00", size-2) + "\xf5"
		}
		if got, want := Valid(text), size == 64; got != want {
			t.Errorf("%d bytes: %t, want %t", size, got, want)
		}
	}
	image := mustBuild(t, "\x10\x82", 7)
	wrong := []string{
		"\xb0",
		image[:63],
		image[1:],
		image + "\x00",
		"\x00" + image,
		image + strings.Repeat("\x00", 64),
		strings.Repeat("\xb0", 1<<20),
	}
	for _, text := range wrong {
		if Valid(text) {
			t.Errorf("%d bytes: valid", len(text))
		}
	}
	// 64 runes are more than 64 bytes.
	if Valid("\xb0" + strings.Repeat("\u00e9", 63)) {
		t.Errorf("64 runes: valid")
	}
}

// P5: ordinary choices and the edges, written out.
func TestChooseCases(t *testing.T) {
	low, high := mustBuild(t, "\x00", 127), mustBuild(t, "\x00", 128)
	least, most := mustBuild(t, "", 0), mustBuild(t, "", 255)
	other := mustBuild(t, "\xff", 128)
	bad := withByte(most, 63, most[63]+1)
	cases := []struct {
		name    string
		a, b    string
		strikes [2]int
		want    int
	}{
		{"the greater number", low, high, [2]int{}, 1},
		{"the greater number, turned", high, low, [2]int{}, 0},
		{"0 and 255", least, most, [2]int{}, 1},
		{"255 and 0", most, least, [2]int{}, 0},
		{"the same number", high, other, [2]int{}, 0},
		{"the same number, turned", other, high, [2]int{}, 0},
		{"the same image", high, high, [2]int{}, 0},
		{"one strike below", low, high, [2]int{0, api.Strikes - 1}, 1},
		{"at Strikes", low, high, [2]int{0, api.Strikes}, 0},
		{"above Strikes", low, high, [2]int{0, api.Strikes + 1}, 0},
		{"both one below", low, high, [2]int{api.Strikes - 1, api.Strikes - 1}, 1},
		{"fewer strikes do not matter", low, high, [2]int{0, 1}, 1},
		{"the same number, one struck out", high, other, [2]int{api.Strikes, 2}, 1},
		{"the same number, more strikes", high, other, [2]int{2, 0}, 0},
		{"both struck out", low, high, [2]int{api.Strikes, api.Strikes}, 1},
		{"both struck out, turned", high, low, [2]int{api.Strikes, api.Strikes + 9}, 0},
		{"both struck out, the same number", high, other, [2]int{9, 3}, 0},
		{"the one valid is the first", least, bad, [2]int{}, 0},
		{"the one valid is the second", bad, least, [2]int{}, 1},
		{"the one valid is struck out", least, bad, [2]int{api.Strikes, 0}, 0},
		{"the one valid is struck out, turned", bad, least, [2]int{0, api.Strikes}, 1},
		{"none valid", bad, bad, [2]int{}, -1},
		{"none valid, struck out", bad, bad, [2]int{api.Strikes, api.Strikes}, -1},
		{"empty texts", "", "", [2]int{}, -1},
		{"short and long texts", high[:63], high + "\x00", [2]int{}, -1},
		{"a short text with the greater number", most[:63], least, [2]int{}, 1},
		{"a long text with the greater number", least, most + "\x00", [2]int{}, 0},
		{"one byte", "\xb0", "\xa5", [2]int{math.MinInt, math.MaxInt}, -1},
		{"below 0", low, high, [2]int{0, -1}, 1},
		{"far below 0", low, high, [2]int{math.MinInt, math.MinInt}, 1},
		{"far above Strikes", low, high, [2]int{math.MinInt, math.MaxInt}, 0},
		{"both far above Strikes", low, high, [2]int{math.MaxInt, math.MaxInt}, 1},
		{"above a byte", low, high, [2]int{0, 256}, 0},
		{"above 32 bits", low, high, [2]int{0, 1 << 32}, 0},
	}
	for _, c := range cases {
		if got := Choose(c.a, c.b, c.strikes); got != c.want {
			t.Errorf("%s: %d, want %d", c.name, got, c.want)
		}
	}
}

// ranked is the document's choice told another way: the best rank wins, bank 0 on a tie.
func ranked(valid [2]bool, number [2]int, strikes [2]int) int {
	best, chosen := -1, -1
	for bank := range 2 {
		if !valid[bank] {
			continue
		}
		rank := number[bank]
		if strikes[bank] < 3 {
			rank += 1000
		}
		if rank > best {
			best, chosen = rank, bank
		}
	}
	return chosen
}

// P5: every mixture of numbers, valid or not, and strikes.
func TestChooseMixtures(t *testing.T) {
	numbers := []int{0, 1, 127, 128, 254, 255}
	counts := []int{math.MinInt, -1, 0, 1, 2, 3, 4, 255, 256, math.MaxInt}
	for mixture := range 4 {
		valid := [2]bool{mixture&1 != 0, mixture&2 != 0}
		for _, first := range numbers {
			for _, second := range numbers {
				a, b := imageOf(t, first, valid[0]), imageOf(t, second, valid[1])
				for _, m := range counts {
					for _, n := range counts {
						strikes := [2]int{m, n}
						want := ranked(valid, [2]int{first, second}, strikes)
						if got := Choose(a, b, strikes); got != want {
							t.Errorf("valid %v, numbers %d %d, strikes %v: %d, want %d", valid, first, second, strikes, got, want)
						}
					}
				}
			}
		}
	}
}

func imageOf(t *testing.T, number int, valid bool) string {
	t.Helper()
	image := mustBuild(t, "\x10\x82", number)
	if !valid {
		image = withByte(image, 63, image[63]^1)
	}
	return image
}

// P2: the calls hang on their arguments alone, and the caller's strikes stay as they are.
func TestImagesHangOnArguments(t *testing.T) {
	low, high := mustBuild(t, "\x01", 1), mustBuild(t, "\x02", 2)
	strikes := [2]int{api.Strikes, api.Strikes}
	for range 3 {
		if got := Choose(low, high, strikes); got != 1 {
			t.Errorf("both struck out: %d, want 1", got)
		}
		if got := Choose(low, high, [2]int{0, api.Strikes}); got != 0 {
			t.Errorf("the second struck out: %d, want 0", got)
		}
		if !Valid(high) || Valid(high[:63]) {
			t.Errorf("Valid answers otherwise on another call")
		}
		if again := mustBuild(t, "\x02", 2); again != high {
			t.Errorf("Build answers otherwise on another call: %q", again)
		}
	}
	if strikes != [2]int{api.Strikes, api.Strikes} {
		t.Errorf("the caller's strikes became %v", strikes)
	}
}
