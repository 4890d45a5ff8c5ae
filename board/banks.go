package board

import (
	"nightwatch/api"
	"nightwatch/images"
)

// banks is the two banks with their strikes, and which of them was chosen.
type banks struct {
	content [2][api.ImageSize]byte
	strikes [2]int
	chosen  int
}

func newBanks(a string, b string) *banks {
	k := &banks{chosen: images.None}
	copy(k.content[0][:], a)
	copy(k.content[1][:], b)
	return k
}

// choose makes the choice, which may take the strikes away.
func (k *banks) choose() {
	a, b := string(k.content[0][:]), string(k.content[1][:])
	k.chosen, k.strikes = images.Decide(a, b, k.strikes)
}

// program is the bank that was chosen: the processor runs only if there is one.
func (k *banks) program() *[api.ImageSize]byte { return &k.content[k.chosen] }

// spare is the bank that was not chosen.
func (k *banks) spare() *[api.ImageSize]byte { return &k.content[1-k.chosen] }

func (k *banks) strike() { k.strikes[k.chosen]++ }

func (k *banks) forgive() { k.strikes[k.chosen] = 0 }
