// Package images makes the images that stand in a board's banks, checks them and chooses between two.
package images

import "nightwatch/api"

const (
	mark  = 0xB0 // the first byte of a valid image
	total = 0xA5 // what the bytes of a valid image sum up to, modulo 256
)

const (
	numberAt = 1
	codeAt   = 2
	lastAt   = api.ImageSize - 1
)

// None is the choice if no image is valid.
const None = -1

// Build makes the valid image of a program and a number.
func Build(code string, number int) (string, api.Errno) {
	if len(code) > api.MaxCode {
		return "", api.ErrLong
	}
	if number < 0 || number > 255 {
		return "", api.ErrPlace
	}
	var content [api.ImageSize]byte
	content[0] = mark
	content[numberAt] = byte(number)
	copy(content[codeAt:lastAt], code)
	// The last byte is still 0 here, so it does not count in the sum that it sets right.
	content[lastAt] = total - sum(string(content[:]))
	return string(content[:]), api.OK
}

// Valid tells whether a text is a valid image.
func Valid(text string) bool {
	return len(text) == api.ImageSize && text[0] == mark && sum(text) == total
}

// Choose tells which of two images is to run: 0, 1 or None.
func Choose(a string, b string, strikes [2]int) int {
	chosen, _ := Decide(a, b, strikes)
	return chosen
}

// Decide makes the choice, and tells the strikes as they are behind it.
func Decide(a string, b string, strikes [2]int) (int, [2]int) {
	chosen := best(a, b, strikes)
	if chosen != None {
		return chosen, strikes
	}
	// Struck out is better than dead: all valid images get another chance.
	chosen = best(a, b, [2]int{})
	if chosen == None {
		return None, strikes
	}
	return chosen, [2]int{}
}

// best is the choice among the images that are not struck out.
func best(a string, b string, strikes [2]int) int {
	first := fit(a, strikes[0])
	second := fit(b, strikes[1])
	switch {
	case first && second:
		return greater(a, b)
	case first:
		return 0
	case second:
		return 1
	}
	return None
}

func fit(text string, strikes int) bool {
	return Valid(text) && strikes < api.Strikes
}

// greater tells which of two valid images has the greater number.
func greater(a string, b string) int {
	if b[numberAt] > a[numberAt] {
		return 1
	}
	return 0
}

// sum goes by bytes: a range over the text would go by runes.
func sum(text string) byte {
	var s byte
	for i := range len(text) {
		s += text[i]
	}
	return s
}
