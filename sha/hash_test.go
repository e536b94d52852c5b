package sha

import (
	"math/big"
	"testing"
)

// primes are the first n primes.
func primes(n int) []int64 {
	var l []int64
	for p := int64(2); len(l) < n; p++ {
		if big.NewInt(p).ProbablyPrime(20) {
			l = append(l, p)
		}
	}
	return l
}

// behindPoint is the first 32 bits behind the point of p's root: the greatest r whose power is at most p, with 32 bits more.
func behindPoint(p int64, power int64) uint32 {
	whole := new(big.Int).Lsh(big.NewInt(p), uint(32*power))
	low, high := big.NewInt(0), new(big.Int).Lsh(big.NewInt(p), 32)
	for low.Cmp(high) < 0 {
		mid := new(big.Int).Add(low, high)
		mid.Add(mid, big.NewInt(1)).Rsh(mid, 1)
		if new(big.Int).Exp(mid, big.NewInt(power), nil).Cmp(whole) <= 0 {
			low = mid
		} else {
			high = mid.Sub(mid, big.NewInt(1))
		}
	}
	return uint32(low.Uint64())
}

func Test2_1FirstWordsAreOfSquareRoots(t *testing.T) {
	words := begin().words
	for i, p := range primes(len(words)) {
		if want := behindPoint(p, 2); words[i] != want {
			t.Errorf("word %d is %08x, want %08x", i, words[i], want)
		}
	}
}

func Test2_1ConstantsAreOfCubeRoots(t *testing.T) {
	for i, p := range primes(rounds) {
		if want := behindPoint(p, 3); constants[i] != want {
			t.Errorf("constant %d is %08x, want %08x", i, constants[i], want)
		}
	}
}
