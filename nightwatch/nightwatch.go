// Package nightwatch steps a small board with a watch over it: see DOC.md.
package nightwatch

import (
	"nightwatch/api"
	"nightwatch/board"
	"nightwatch/images"
)

// Build makes an image of a program (P3).
func Build(code string, number int) (string, api.Errno) { return images.Build(code, number) }

// Valid tells whether a text is a valid image (P4).
func Valid(image string) bool { return images.Valid(image) }

// Choose tells which of two images is to run (P5).
func Choose(a string, b string, strikes [2]int) int { return images.Choose(a, b, strikes) }

// Board is a board.
type Board struct {
	inner *board.Board
}

// New makes a board with two banks (P6).
func New(a string, b string) (*Board, api.Errno) {
	inner, errno := board.New(a, b)
	if errno != api.OK {
		return nil, errno
	}
	return &Board{inner}, api.OK
}

// Step does one cycle (P7).
func (b *Board) Step(in api.Input) api.Cycle { return b.inner.Step(in) }

// Run does some cycles (P8).
func (b *Board) Run(script []api.Input) []api.Cycle { return b.inner.Run(script) }

// Tell tells how the board stands (P9).
func (b *Board) Tell() api.State { return b.inner.Tell() }

// Image tells what is in a bank (P10).
func (b *Board) Image(bank int) (string, api.Errno) { return b.inner.Image(bank) }

// Peek tells a byte of the memory (P10).
func (b *Board) Peek(addr int) (byte, api.Errno) { return b.inner.Peek(addr) }
