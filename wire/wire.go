// Package wire is layer 1: numbers, texts and sums as bytes, each in one form alone. See shared/doc/01-wire.md.
package wire

// bits is how much of a number a byte has, more is its bit that tells of a further byte, longest is how many bytes a number has at most.
const (
	bits    = 7
	more    = 1 << bits
	longest = 9
)
