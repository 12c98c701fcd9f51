package kem

import (
	"bytes"
	"crypto/ecdh"
	"crypto/hkdf"
	"crypto/hpke"
	"crypto/sha256"
	"encoding/hex"
	"errors"
	"math/big"
	"math/rand/v2"
	"slices"
	"testing"

	"fellowship/api"
)

// unhex is the bytes that a text writes out.
func unhex(t *testing.T, s string) []byte {
	t.Helper()
	b, err := hex.DecodeString(s)
	if err != nil {
		t.Fatal("the test's own bytes aren't any", s)
	}
	return b
}

// row is n drawn bytes.
func row(draw *rand.Rand, n int) []byte {
	b := make([]byte, n)
	for i := range b {
		b[i] = byte(draw.Uint32())
	}
	return b
}

// drawn is a key of any bits.
func drawn(draw *rand.Rand) api.Key { return api.Key(row(draw, 32)) }

// flipped is a key with another bit i.
func flipped(k api.Key, i int) api.Key {
	k[i/8] ^= 1 << (i % 8)
	return k
}

// toKey is a number's 32 bytes, the low one first.
func toKey(n *big.Int) api.Key {
	var key api.Key
	n.FillBytes(key[:])
	slices.Reverse(key[:])
	return key
}

// prime is p, 2^255 - 19.
func prime() *big.Int {
	n := new(big.Int).Lsh(big.NewInt(1), 255)
	return n.Sub(n, big.NewInt(19))
}

// few are the keys of points with 1, 2, 4 or 8 multiples, in all their bytes: a clamped
// key times one of them is the nought.
func few(t *testing.T) []api.Key {
	t.Helper()
	var out []api.Key
	for _, text := range []string{
		"0",
		"1",
		"-1",
		"325606250916557431795983626356110631294008115727848805560023387167927233504",
		"39382357235489614581723060781553021112529911719440698176882885853963445705823",
	} {
		n, ok := new(big.Int).SetString(text, 10)
		if !ok {
			t.Fatal("the test's own number isn't one", text)
		}
		n.Mod(n, prime())
		for range 4 {
			if n.BitLen() <= 255 {
				out = append(out, toKey(n), flipped(toKey(n), 255))
			}
			n.Add(n, prime())
		}
	}
	return out
}

// labelledExtract is a labelled extract by the library's HKDF.
func labelledExtract(t *testing.T, label string, secret []byte) []byte {
	t.Helper()
	var b bytes.Buffer
	b.WriteString("HPKE-v1")
	b.WriteString("KEM")
	b.Write([]byte{0, 32})
	b.WriteString(label)
	b.Write(secret)
	out, err := hkdf.Extract(sha256.New, b.Bytes(), nil)
	if err != nil {
		t.Fatal(err)
	}
	return out
}

// labelledExpand is a labelled expand by the library's HKDF.
func labelledExpand(t *testing.T, secret []byte, label string, info []byte) []byte {
	t.Helper()
	var b bytes.Buffer
	b.Write([]byte{0, 32})
	b.WriteString("HPKE-v1")
	b.WriteString("KEM")
	b.Write([]byte{0, 32})
	b.WriteString(label)
	b.Write(info)
	out, err := hkdf.Expand(sha256.New, secret, b.String(), 32)
	if err != nil {
		t.Fatal(err)
	}
	return out
}

// times is the library's X25519; all noughts, if that refuses it.
func times(t *testing.T, k, u api.Key) api.Key {
	t.Helper()
	secret, err := ecdh.X25519().NewPrivateKey(k[:])
	if err != nil {
		t.Fatal(err)
	}
	public, err := ecdh.X25519().NewPublicKey(u[:])
	if err != nil {
		t.Fatal(err)
	}
	out, err := secret.ECDH(public)
	if err != nil {
		return api.Key{}
	}
	return api.Key(out)
}

// pair is what Pair should answer.
func pair(t *testing.T, seed []byte) (secret, public api.Key) {
	t.Helper()
	secret = api.Key(labelledExpand(t, labelledExtract(t, "dkp_prk", seed), "sk", nil))
	return secret, times(t, secret, api.Key{9})
}

// shared is what both should have in common.
func shared(t *testing.T, dh, enc, to api.Key) api.Hash {
	t.Helper()
	info := append(slices.Clone(enc[:]), to[:]...)
	return api.Hash(labelledExpand(t, labelledExtract(t, "eae_prk", dh[:]), "shared_secret", info))
}

// checkPair holds Pair of a seed against what it should be.
func checkPair(t *testing.T, seed []byte) {
	t.Helper()
	wantSecret, wantPublic := pair(t, seed)
	if secret, public := Pair(seed); secret != wantSecret || public != wantPublic {
		t.Errorf("Pair of %x: %x and %x, not %x and %x", seed, secret, public, wantSecret, wantPublic)
	}
}

// checkEncap holds Encap to a key by a seed against what it should be.
func checkEncap(t *testing.T, to api.Key, seed []byte) {
	t.Helper()
	enc, common, err := Encap(to, seed)
	secret, wantEnc := pair(t, seed)
	dh := times(t, secret, to)
	if dh == (api.Key{}) {
		if !errors.Is(err, api.ErrKey) || enc != (api.Key{}) || common != (api.Hash{}) {
			t.Errorf("Encap to %x by %x: %x, %x, %v, though nothing is in common", to, seed, enc, common, err)
		}
		return
	}
	if want := shared(t, dh, wantEnc, to); err != nil || enc != wantEnc || common != want {
		t.Errorf("Encap to %x by %x: %x, %x, %v, not %x, %x", to, seed, enc, common, err, wantEnc, want)
	}
}

// checkDecap holds Decap of a key against what it should be.
func checkDecap(t *testing.T, secret, enc api.Key) {
	t.Helper()
	common, err := Decap(secret, enc)
	dh := times(t, secret, enc)
	if dh == (api.Key{}) {
		if !errors.Is(err, api.ErrKey) || common != (api.Hash{}) {
			t.Errorf("Decap by %x of %x: %x, %v, though nothing is in common", secret, enc, common, err)
		}
		return
	}
	if want := shared(t, dh, enc, times(t, secret, api.Key{9})); err != nil || common != want {
		t.Errorf("Decap by %x of %x: %x, %v, not %x", secret, enc, common, err, want)
	}
}

// edgeKeys are keys at the ends: those that are clamped, and those about 0, p, 2^255 and
// 2^256 as points.
func edgeKeys() []api.Key {
	ones := flipped(toKey(new(big.Int).Sub(new(big.Int).Lsh(big.NewInt(1), 255), big.NewInt(1))), 255)
	out := []api.Key{{}, ones, flipped(ones, 255), flipped(ones, 254), flipped(ones, 0), {31: 0x40}, {31: 0x80}, {0: 7}, {0: 8}, {0: 9}, {0: 9, 31: 0x80}}
	for off := int64(-3); off < 19; off++ {
		k := toKey(new(big.Int).Add(prime(), big.NewInt(off)))
		out = append(out, k, flipped(k, 255))
	}
	return out
}

func TestTheStandardsExamples(t *testing.T) {
	for _, c := range []struct{ seedE, secretE, publicE, seedR, secretR, publicR, common string }{
		{
			"7268600d403fce431561aef583ee1613527cff655c1343f29812e66706df3234",
			"52c4a758a802cd8b936eceea314432798d5baf2d7e9235dc084ab1b9cfa2f736",
			"37fda3567bdbd628e88668c3c8d7e97d1d1253b6d4ea6d44c150f741f1bf4431",
			"6db9df30aa07dd42ee5e8181afdb977e538f5e1fec8a06223f33f7013e525037",
			"4612c550263fc8ad58375df3f557aac531d26850903e55a9f23f21d8534e8ac8",
			"3948cfe0ad1ddb695d780e59077195da6c56506b027329794ab02bca80815c4d",
			"fe0e18c9f024ce43799ae393c7e8fe8fce9d218875e8227b0187c04e7d2ea1fc",
		},
		{
			"909a9b35d3dc4713a5e72a4da274b55d3d3821a37e5d099e74a647db583a904b",
			"f4ec9b33b792c372c1d2c2063507b684ef925b8c75a42dbcbf57d63ccd381600",
			"1afa08d3dec047a643885163f1180476fa7ddb54c6a8029ea33f95796bf2ac4a",
			"1ac01f181fdf9f352797655161c58b75c656a6cc2716dcb66372da835542e1df",
			"8057991eef8f1f1af18f4a9491d16a1ce333f695d4db8e38da75975c4478e0fb",
			"4310ee97d88cc1f088a5576c77ab0cf5c3ac797f3d95139c6c84b5429c59662a",
			"0bbe78490412b4bbea4812666f7916932b828bba79942424abb65244930d69a7",
		},
	} {
		secretE, publicE := Pair(unhex(t, c.seedE))
		if !bytes.Equal(secretE[:], unhex(t, c.secretE)) || !bytes.Equal(publicE[:], unhex(t, c.publicE)) {
			t.Errorf("the sender's pair: %x, %x", secretE, publicE)
		}
		secretR, publicR := Pair(unhex(t, c.seedR))
		if !bytes.Equal(secretR[:], unhex(t, c.secretR)) || !bytes.Equal(publicR[:], unhex(t, c.publicR)) {
			t.Errorf("the receiver's pair: %x, %x", secretR, publicR)
		}
		enc, common, err := Encap(publicR, unhex(t, c.seedE))
		if err != nil || enc != publicE || !bytes.Equal(common[:], unhex(t, c.common)) {
			t.Errorf("Encap: %x, %x, %v", enc, common, err)
		}
		common, err = Decap(secretR, publicE)
		if err != nil || !bytes.Equal(common[:], unhex(t, c.common)) {
			t.Errorf("Decap: %x, %v", common, err)
		}
	}
}

func TestPairOfSeedsOfEveryLength(t *testing.T) {
	draw := rand.New(rand.NewPCG(14, 1))
	for n := range 300 {
		checkPair(t, row(draw, n))
	}
	for _, n := range []int{1000, 16384, 16385, 65535, 65536, 65537, 1 << 20} {
		checkPair(t, row(draw, n))
		checkPair(t, make([]byte, n))
	}
}

func TestPairAgainstTheLibrary(t *testing.T) {
	draw := rand.New(rand.NewPCG(14, 2))
	kem := hpke.DHKEM(ecdh.X25519())
	for n := range 100 {
		seed := row(draw, 32+n)
		key, err := kem.DeriveKeyPair(seed)
		if err != nil {
			t.Fatal(err)
		}
		secret, public := Pair(seed)
		if !bytes.Equal(public[:], key.PublicKey().Bytes()) {
			t.Errorf("the public key of %x: %x, not %x", seed, public, key.PublicKey().Bytes())
		}
		own, err := kem.NewPrivateKey(secret[:])
		if err != nil || !bytes.Equal(own.PublicKey().Bytes(), public[:]) {
			t.Errorf("%x isn't the secret key of %x: %v", secret, public, err)
		}
	}
}

func TestTheSecretKeyIsNotClamped(t *testing.T) {
	draw := rand.New(rand.NewPCG(14, 3))
	var either, all byte = 0, 0xff
	var low byte
	for range 64 {
		secret, _ := Pair(row(draw, 8))
		low |= secret[0] & 7
		either |= secret[31]
		all &= secret[31]
	}
	if low != 7 || either&0x80 == 0 || all&0x40 != 0 {
		t.Errorf("of 64 secret keys: low bits %x, highest ones of some %x, of all %x", low, either, all)
	}
}

func TestSeedsWithoutBytesAreOne(t *testing.T) {
	wantSecret, wantPublic := pair(t, nil)
	_, to := Pair([]byte{1})
	wantEnc, wantCommon, _ := Encap(to)
	if wantEnc != wantPublic {
		t.Errorf("Encap without a seed: %x, not %x", wantEnc, wantPublic)
	}
	for _, seed := range [][][]byte{nil, {}, {nil}, {{}}, {nil, {}, nil}, make([][]byte, 100)} {
		if secret, public := Pair(seed...); secret != wantSecret || public != wantPublic {
			t.Errorf("Pair of %v: %x, %x", seed, secret, public)
		}
		if enc, common, err := Encap(to, seed...); err != nil || enc != wantEnc || common != wantCommon {
			t.Errorf("Encap by %v: %x, %x, %v", seed, enc, common, err)
		}
	}
	checkPair(t, nil)
	checkEncap(t, to, nil)
}

// cuts are parts of a seed, cut anywhere, with empty ones among them.
func cuts(draw *rand.Rand, seed []byte) [][]byte {
	var parts [][]byte
	for len(seed) > 0 {
		n := draw.IntN(len(seed) + 1)
		parts = append(parts, seed[:n])
		seed = seed[n:]
		if draw.IntN(3) == 0 {
			parts = append(parts, nil)
		}
	}
	return parts
}

func TestPartsAreOneBehindTheOther(t *testing.T) {
	draw := rand.New(rand.NewPCG(14, 4))
	_, to := Pair([]byte("to"))
	check := func(seed []byte, parts [][]byte) {
		t.Helper()
		wantSecret, wantPublic := Pair(seed)
		if secret, public := Pair(parts...); secret != wantSecret || public != wantPublic {
			t.Errorf("Pair of %x in %d parts: %x, %x", seed, len(parts), secret, public)
		}
		wantEnc, wantCommon, _ := Encap(to, seed)
		if enc, common, err := Encap(to, parts...); err != nil || enc != wantEnc || common != wantCommon {
			t.Errorf("Encap by %x in %d parts: %x, %x, %v", seed, len(parts), enc, common, err)
		}
	}
	seed := row(draw, 70)
	for n := range len(seed) + 1 {
		check(seed, [][]byte{seed[:n], seed[n:]})
	}
	for range 40 {
		seed := row(draw, draw.IntN(400))
		check(seed, cuts(draw, seed))
	}
	var single [][]byte
	for i := range seed {
		single = append(single, seed[i:i+1])
	}
	check(seed, single)
}

func TestEveryBitOfASeedTells(t *testing.T) {
	draw := rand.New(rand.NewPCG(14, 5))
	seed := row(draw, 32)
	seeds := [][]byte{seed, append([]byte{0}, seed...), append(slices.Clone(seed), 0)}
	for i := range 8 * len(seed) {
		other := flipped(api.Key(seed), i)
		seeds = append(seeds, other[:])
	}
	seen := map[api.Key]bool{}
	for _, other := range seeds {
		secret, public := Pair(other)
		if seen[secret] || seen[public] {
			t.Errorf("%x: the pair of another seed", other)
		}
		seen[secret], seen[public] = true, true
	}
}

func TestEncapToDrawnKeys(t *testing.T) {
	draw := rand.New(rand.NewPCG(14, 6))
	for n := range 200 {
		checkEncap(t, drawn(draw), row(draw, n))
	}
	for _, n := range []int{16385, 65537} {
		checkEncap(t, drawn(draw), row(draw, n))
	}
}

func TestDecapOfDrawnKeys(t *testing.T) {
	draw := rand.New(rand.NewPCG(14, 7))
	for range 200 {
		checkDecap(t, drawn(draw), drawn(draw))
	}
}

func TestKeysAtTheEnds(t *testing.T) {
	draw := rand.New(rand.NewPCG(14, 8))
	for _, key := range edgeKeys() {
		checkEncap(t, key, row(draw, 16))
		checkDecap(t, drawn(draw), key)
		checkDecap(t, key, drawn(draw))
		checkDecap(t, key, api.Key{9})
		checkDecap(t, key, key)
	}
}

func TestPointsOfFewMultiplesAreNobodysKeys(t *testing.T) {
	draw := rand.New(rand.NewPCG(14, 9))
	for _, u := range few(t) {
		for _, seed := range [][]byte{nil, row(draw, 32), row(draw, 100)} {
			enc, common, err := Encap(u, seed)
			if !errors.Is(err, api.ErrKey) || enc != (api.Key{}) || common != (api.Hash{}) {
				t.Errorf("Encap to %x: %x, %x, %v", u, enc, common, err)
			}
		}
		for _, secret := range []api.Key{{}, drawn(draw), drawn(draw), u} {
			common, err := Decap(secret, u)
			if !errors.Is(err, api.ErrKey) || common != (api.Hash{}) {
				t.Errorf("Decap by %x of %x: %x, %v", secret, u, common, err)
			}
		}
		for i := range 8 {
			if other := flipped(u, 8+i); !slices.Contains(few(t), other) {
				checkEncap(t, other, []byte("a seed"))
				checkDecap(t, drawn(draw), other)
			}
		}
	}
	if got := len(few(t)); got != 14 {
		t.Errorf("%d keys of points of few multiples", got)
	}
}

func TestWhatOneEncapsulatesTheOtherDecapsulates(t *testing.T) {
	draw := rand.New(rand.NewPCG(14, 10))
	seen := map[api.Hash]bool{}
	check := func(secret, public api.Key, seed []byte) {
		t.Helper()
		enc, common, err := Encap(public, seed)
		if err != nil {
			t.Fatalf("Encap to %x: %v", public, err)
		}
		if got, err := Decap(secret, enc); err != nil || got != common {
			t.Errorf("Decap by %x of %x: %x, %v, not %x", secret, enc, got, err, common)
		}
		if seen[common] {
			t.Errorf("%x was in common already", common)
		}
		seen[common] = true
	}
	for n := range 200 {
		secret, public := Pair(row(draw, n))
		check(secret, public, row(draw, n+1))
	}
	// Keys that no seed made, and one that encapsulates to itself.
	for _, secret := range edgeKeys()[:6] {
		check(secret, times(t, secret, api.Key{9}), row(draw, 9))
	}
	secret, public := Pair([]byte("me"))
	check(secret, public, []byte("me"))
}

func TestAnotherKeyDecapsulatesAnotherSecret(t *testing.T) {
	draw := rand.New(rand.NewPCG(14, 11))
	secret, public := Pair(row(draw, 32))
	enc, common, err := Encap(public, row(draw, 32))
	if err != nil {
		t.Fatal(err)
	}
	for i := range 256 {
		// Not even the highest bit of a key, which its point hasn't, goes for nothing.
		if got, err := Decap(secret, flipped(enc, i)); err != nil || got == common {
			t.Errorf("Decap of another bit %d: %x, %v", i, got, err)
		}
		if _, got, err := Encap(flipped(public, i), row(draw, 32)); err != nil || got == common {
			t.Errorf("Encap to another bit %d: %x, %v", i, got, err)
		}
		got, err := Decap(flipped(secret, i), enc)
		// Those that are clamped don't tell.
		if same := i < 3 || i > 253; err != nil || (got == common) != same {
			t.Errorf("Decap by another bit %d: %x, %v", i, got, err)
		}
	}
}

func TestOtherBytesOfOnePointAreOtherKeys(t *testing.T) {
	seed := []byte("a seed")
	for off := int64(2); off < 19; off++ {
		low, high := toKey(big.NewInt(off)), toKey(new(big.Int).Add(prime(), big.NewInt(off)))
		seen := map[api.Hash]bool{}
		for _, to := range []api.Key{low, high, flipped(low, 255), flipped(high, 255)} {
			checkEncap(t, to, seed)
			enc, common, err := Encap(to, seed)
			if wantEnc, _, _ := Encap(low, seed); err != nil || enc != wantEnc || seen[common] {
				t.Errorf("Encap to %x: %x, %x, %v", to, enc, common, err)
			}
			seen[common] = true
		}
	}
}

// exported is what HPKE exports by what both have in common, without a key of theirs and
// without an info: it shows a secret that the library keeps to itself.
func exported(t *testing.T, common api.Hash, context string, n int) []byte {
	t.Helper()
	suite := "HPKE-v1" + "HPKE" + "\x00\x20" + "\x00\x01" + "\x00\x03"
	extract := func(salt []byte, label string, secret []byte) []byte {
		out, err := hkdf.Extract(sha256.New, append([]byte(suite+label), secret...), salt)
		if err != nil {
			t.Fatal(err)
		}
		return out
	}
	expand := func(secret []byte, label, info string, n int) []byte {
		out, err := hkdf.Expand(sha256.New, secret, string([]byte{byte(n >> 8), byte(n)})+suite+label+info, n)
		if err != nil {
			t.Fatal(err)
		}
		return out
	}
	whole := "\x00" + string(extract(nil, "psk_id_hash", nil)) + string(extract(nil, "info_hash", nil))
	secret := extract(common[:], "secret", nil)
	return expand(expand(secret, "exp", whole, 32), "sec", context, n)
}

func TestTheLibraryDecapsulates(t *testing.T) {
	draw := rand.New(rand.NewPCG(14, 12))
	kdf, aead := hpke.HKDFSHA256(), hpke.ChaCha20Poly1305()
	for n := range 40 {
		secret, public := Pair(row(draw, n))
		enc, common, err := Encap(public, row(draw, n+1))
		if err != nil {
			t.Fatal(err)
		}
		key, err := hpke.DHKEM(ecdh.X25519()).NewPrivateKey(secret[:])
		if err != nil {
			t.Fatal(err)
		}
		receiver, err := hpke.NewRecipient(enc[:], key, kdf, aead, nil)
		if err != nil {
			t.Fatal(err)
		}
		if got, err := receiver.Export("a context", 50); err != nil || !bytes.Equal(got, exported(t, common, "a context", 50)) {
			t.Errorf("the library decapsulates %x to %x otherwise: %v", enc, public, err)
		}
	}
}

func TestWhatTheLibraryEncapsulates(t *testing.T) {
	draw := rand.New(rand.NewPCG(14, 13))
	kdf, aead := hpke.HKDFSHA256(), hpke.ChaCha20Poly1305()
	for n := range 40 {
		secret, public := Pair(row(draw, n))
		to, err := hpke.DHKEM(ecdh.X25519()).NewPublicKey(public[:])
		if err != nil {
			t.Fatal(err)
		}
		enc, sender, err := hpke.NewSender(to, kdf, aead, nil)
		if err != nil {
			t.Fatal(err)
		}
		common, err := Decap(secret, api.Key(enc))
		if err != nil {
			t.Fatal(err)
		}
		if want, err := sender.Export("", 32); err != nil || !bytes.Equal(want, exported(t, common, "", 32)) {
			t.Errorf("Decap by %x of %x: %x, and the library has another: %v", secret, enc, common, err)
		}
	}
}

func TestEncapToNoughts(t *testing.T) {
	enc, common, err := Encap(api.Key{}, []byte("a"), []byte("seed"))
	if !errors.Is(err, api.ErrKey) || enc != (api.Key{}) || common != (api.Hash{}) {
		t.Errorf("Encap to noughts: %x, %x, %v", enc, common, err)
	}
}

func TestNothingHandedInIsChangedOrKept(t *testing.T) {
	draw := rand.New(rand.NewPCG(14, 14))
	whole := row(draw, 100)
	before := slices.Clone(whole)
	// The parts have room behind them, which is nobody's but the caller's, and so has the list.
	list := [][]byte{whole[:10], whole[20:30], nil, whole[40:50], whole[60:70]}
	parts := list[:4]
	secret, public := Pair(parts...)
	enc, common, err := Encap(public, parts...)
	if err != nil {
		t.Fatal(err)
	}
	if !bytes.Equal(whole, before) || !bytes.Equal(list[0], before[:10]) || list[2] != nil || !bytes.Equal(list[4], before[60:70]) {
		t.Error("a seed or its list was changed")
	}
	for i := range whole {
		whole[i]++
	}
	if got, err := Decap(secret, enc); err != nil || got != common {
		t.Errorf("behind a change of the seed: %x, %v, not %x", got, err, common)
	}
	copy(whole, before)
	if s, p := Pair(parts...); s != secret || p != public {
		t.Errorf("the same seed once more: %x, %x", s, p)
	}
}

func BenchmarkPair(b *testing.B) {
	for b.Loop() {
		Pair([]byte("seed"))
	}
}

func BenchmarkEncap(b *testing.B) {
	_, public := Pair([]byte("to"))
	for b.Loop() {
		Encap(public, []byte("seed"))
	}
}

func BenchmarkDecap(b *testing.B) {
	secret, public := Pair([]byte("to"))
	enc, _, err := Encap(public, []byte("seed"))
	if err != nil {
		b.Fatal(err)
	}
	for b.Loop() {
		Decap(secret, enc)
	}
}
