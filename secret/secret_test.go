package secret_test

import (
	"crypto/sha256"
	"encoding/hex"
	"math"
	"sync"
	"testing"

	"bartizan/api"
	"bartizan/lock"
	"bartizan/secret"
)

// joined is Join, by the library's SHA-256.
func joined(tag byte, parts ...[]byte) api.Sum {
	text := []byte{tag}
	for _, p := range parts {
		n := len(p)
		text = append(text, byte(n>>24), byte(n>>16), byte(n>>8), byte(n))
		text = append(text, p...)
	}
	return sha256.Sum256(text)
}

// secretOf is the secret of a state whose four bytes are handed in.
func secretOf(seed api.Sum, number ...byte) api.Sum {
	return joined(61, seed[:], number)
}

// hashOf is what a secret is known by.
func hashOf(s api.Sum) api.Sum {
	return joined(31, s[:])
}

// sums are unlike sums, with the least and the greatest one.
func sums() []api.Sum {
	var full, rising api.Sum
	for i := range full {
		full[i] = 0xff
		rising[i] = byte(i)
	}
	return []api.Sum{{}, rising, full, {1}, {31: 1}, joined(99)}
}

// states calls f with states, and the four bytes of each.
func states(f func(state int, number []byte)) {
	for _, c := range []struct {
		state  int
		number [4]byte
	}{
		{0, [4]byte{}},
		{1, [4]byte{0, 0, 0, 1}},
		{2, [4]byte{0, 0, 0, 2}},
		{127, [4]byte{0, 0, 0, 127}},
		{128, [4]byte{0, 0, 0, 128}},
		{255, [4]byte{0, 0, 0, 255}},
		{256, [4]byte{0, 0, 1, 0}},
		{258, [4]byte{0, 0, 1, 2}},
		{65535, [4]byte{0, 0, 255, 255}},
		{65536, [4]byte{0, 1, 0, 0}},
		{1<<20 - 1, [4]byte{0, 15, 255, 255}},
		{1 << 20, [4]byte{0, 16, 0, 0}},
		{1<<20 + 1, [4]byte{0, 16, 0, 1}},
		{1<<24 - 1, [4]byte{0, 255, 255, 255}},
		{1 << 24, [4]byte{1, 0, 0, 0}},
		{0x01020304, [4]byte{1, 2, 3, 4}},
		{1<<31 - 1, [4]byte{127, 255, 255, 255}},
		{1 << 31, [4]byte{128, 0, 0, 0}},
		{1<<32 - 1, [4]byte{255, 255, 255, 255}},
	} {
		f(c.state, c.number[:])
	}
}

// isOf holds what Of and Point answer against a secret.
func isOf(t *testing.T, seed api.Sum, state int, want api.Sum) {
	t.Helper()
	if got := secret.Of(seed, state); got != want {
		t.Errorf("the secret of %d by %x is %x, want %x", state, seed[:4], got, want)
	}
	if got := secret.Point(seed, state); got != hashOf(want) {
		t.Errorf("the secret of %d by %x is known by %x, want %x", state, seed[:4], got, hashOf(want))
	}
}

// sumFrom is the sum whose bytes are written out.
func sumFrom(text string) api.Sum {
	b, _ := hex.DecodeString(text)
	return api.Sum(b)
}

func Test13_1KnownSecrets(t *testing.T) {
	l := sums()
	for _, c := range []struct {
		seed          api.Sum
		state         int
		secret, point string
	}{
		{l[0], 0, "c3f8cba6878a0159ea65e0fa02337a863fbe6d47b19e3eb8b01abd6a14f6a445", "00ddcf7d693b95d2a622b71076f8458ed610f950b1500f52bcbafa701dce627a"},
		{l[0], 1, "7be7b1f41d46545cb99e4a2b08a9adbee32e20c08386ac7bf63a1f3af099bd46", "2e629cc96820cb917c0d1f345c2c92b3f874b250e69ec92c3e58009606ce9b06"},
		{l[1], 258, "11dcca58a1286a7daad4ec1ad89c42895436c3b5f5c4fae06b7c7dd3e55de96f", "be390c5681c9257a7c5ee713293b985f2d5b589c0cc6710b397ede2ddd3776c0"},
		{l[1], 1 << 20, "3aed51ec27445d398fb11e9114bb7da9bf8d396cbced38470446321bc1591c9d", "0ff80ce6fb29c9b9bf5cef5cc584ac8e4fb217eb32342f62738aa0879b1d5b3c"},
		{l[2], 0x01020304, "4ae28c3dc249207d8440dc7a7d2b28aa945e7e7764be10d725c5002b13501d9d", "dab00235df31390d9b2764661a478fa7c1f4488ed81bacf50fb0c91a139ce935"},
		{l[2], 1<<32 - 1, "365a0cfeb70bddadf51c62d3870c9c91bb61a85172ea8a223aca57655287829e", "02d4ff59da759369a2e448d7e297190d1c6b8e3895b3bb543e75112a86c016a4"},
	} {
		if got := secret.Of(c.seed, c.state); got != sumFrom(c.secret) {
			t.Errorf("the secret of %d is %x, want %s", c.state, got, c.secret)
		}
		if got := secret.Hash(sumFrom(c.secret)); got != sumFrom(c.point) {
			t.Errorf("%s is known by %x, want %s", c.secret, got, c.point)
		}
		if got := secret.Point(c.seed, c.state); got != sumFrom(c.point) {
			t.Errorf("the secret of %d is known by %x, want %s", c.state, got, c.point)
		}
	}
}

func Test13_1OfIsTheSumOfSeedAndNumber(t *testing.T) {
	for _, seed := range sums() {
		states(func(state int, number []byte) {
			isOf(t, seed, state, secretOf(seed, number...))
		})
	}
}

func Test13_1StatesBelow0AreAs0(t *testing.T) {
	for _, seed := range sums() {
		for _, state := range []int{-1, -2, -255, -256, -1 << 20, -1 << 31, -1<<32 + 5, math.MinInt + 5, math.MinInt} {
			isOf(t, seed, state, secretOf(seed, 0, 0, 0, 0))
		}
	}
}

func Test13_1OfGreaterStatesTheLowest32BitsCount(t *testing.T) {
	for _, seed := range sums() {
		states(func(state int, number []byte) {
			for _, above := range []int{1 << 32, 5 << 32, 1 << 40, 1 << 62, math.MaxInt - 1<<32 + 1} {
				isOf(t, seed, above+state, secretOf(seed, number...))
			}
		})
		isOf(t, seed, math.MaxInt, secretOf(seed, 255, 255, 255, 255))
	}
}

func Test13_1HashIsWhatALockAsksFor(t *testing.T) {
	for _, s := range sums() {
		if got := secret.Hash(s); got != hashOf(s) || got != lock.Hash(s[:]) {
			t.Errorf("%x is known by %x, want %x", s, got, hashOf(s))
		}
	}
	x := secret.Of(api.Sum{7}, 3)
	w := api.Way{Hash: secret.Point(api.Sum{7}, 3)}
	if !lock.Opens(w, lock.Try{Pre: x[:]}) {
		t.Error("a secret does not open what asks for it")
	}
}

func Test13_1EachBitOfASeedCounts(t *testing.T) {
	for _, seed := range sums()[:3] {
		was := secret.Of(seed, 5)
		for i := range 256 {
			other := seed
			other[i/8] ^= 1 << (i % 8)
			if secret.Of(other, 5) == was {
				t.Errorf("bit %d of %x does not count", i, seed)
			}
		}
	}
}

func Test13_1SecretsAreUnlike(t *testing.T) {
	seen := map[api.Sum]int{}
	for _, seed := range sums() {
		for state := range 1000 {
			seen[secret.Of(seed, state)]++
			seen[secret.Point(seed, state)]++
		}
	}
	if len(seen) != 2*1000*len(sums()) {
		t.Errorf("%d unlike ones, want %d", len(seen), 2*1000*len(sums()))
	}
}

func Test13_1ManyAtOnce(t *testing.T) {
	var g sync.WaitGroup
	for i := range 8 {
		g.Add(1)
		go func() {
			defer g.Done()
			for state := range 100 {
				isOf(t, api.Sum{byte(i)}, state, secretOf(api.Sum{byte(i)}, 0, 0, 0, byte(state)))
			}
		}()
	}
	g.Wait()
}
