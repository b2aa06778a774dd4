package state_test

import (
	"bytes"
	"maps"
	"math/big"
	"slices"

	"quarry/api"
	"quarry/hash"
	"quarry/trie"
)

// A plainAccount is an account without any address.
type plainAccount struct {
	nonce   uint64
	balance api.Word
	code    string
	storage map[api.Word]api.Word
}

// A spot is a key of an account's storage.
type spot struct {
	a api.Address
	k api.Word
}

// A snap is all that a world is at one time.
type snap struct {
	accounts                       map[api.Address]plainAccount
	touched, made, warm, destroyed map[api.Address]bool
	hot                            map[spot]bool
	transient                      map[spot]api.Word
	refund                         *big.Int
	logs                           []api.Log
}

// copied is a snap that shares nothing with x that is ever changed.
func (x snap) copied() snap {
	return snap{
		copiedAccounts(x.accounts), maps.Clone(x.touched), maps.Clone(x.made), maps.Clone(x.warm), maps.Clone(x.destroyed),
		maps.Clone(x.hot), maps.Clone(x.transient), new(big.Int).Set(x.refund), slices.Clone(x.logs),
	}
}

func copiedAccounts(m map[api.Address]plainAccount) map[api.Address]plainAccount {
	all := map[api.Address]plainAccount{}
	for a, c := range m {
		c.storage = maps.Clone(c.storage)
		all[a] = c
	}
	return all
}

// plain is a world by the chapter's words: a mark is a copy of all, and Back takes it for what is now.
type plain struct {
	now   snap
	start map[api.Address]plainAccount // what stood when the transaction began
	marks []*snap                      // nil where one was undone
}

// plainOf is the plain world of these accounts.
func plainOf(l []api.Account) *plain {
	p := &plain{now: snap{accounts: map[api.Address]plainAccount{}}}
	for _, x := range l {
		c := plainAccount{x.Nonce, x.Balance, string(x.Code), map[api.Word]api.Word{}}
		for _, y := range x.Storage {
			c.storage[y.Key] = y.Value
		}
		maps.DeleteFunc(c.storage, func(_, v api.Word) bool { return v == api.Word{} })
		p.now.accounts[x.Address] = c
	}
	p.Begin()
	return p
}

func (p *plain) Begin() {
	no := func() map[api.Address]bool { return map[api.Address]bool{} }
	p.now = snap{p.now.accounts, no(), no(), no(), no(), map[spot]bool{}, map[spot]api.Word{}, new(big.Int), nil}
	p.start = copiedAccounts(p.now.accounts)
	p.marks = nil
}

func (p *plain) End(clear bool) {
	for a := range p.now.destroyed {
		delete(p.now.accounts, a)
	}
	for a := range p.now.touched {
		if clear && p.Empty(a) {
			delete(p.now.accounts, a)
		}
	}
	p.Begin()
}

func (p *plain) Mark() int {
	now := p.now.copied()
	p.marks = append(p.marks, &now)
	return len(p.marks) - 1
}

func (p *plain) Back(mark int) bool {
	if mark < 0 || mark >= len(p.marks) || p.marks[mark] == nil {
		return false
	}
	p.now = p.marks[mark].copied()
	for i := mark + 1; i < len(p.marks); i++ {
		p.marks[i] = nil
	}
	return true
}

func (p *plain) Alloc() []api.Account {
	var l []api.Account
	for a, c := range p.now.accounts {
		x := api.Account{Address: a, Nonce: c.nonce, Balance: c.balance, Code: []byte(c.code)}
		for k, v := range c.storage {
			x.Storage = append(x.Storage, api.Slot{Key: k, Value: v})
		}
		slices.SortFunc(x.Storage, func(x, y api.Slot) int { return bigOf(x.Key).Cmp(bigOf(y.Key)) })
		l = append(l, x)
	}
	slices.SortFunc(l, func(x, y api.Account) int { return bytes.Compare(x.Address[:], y.Address[:]) })
	return l
}

func (p *plain) Root() api.Hash { return rootOf(p.Alloc()) }

func (p *plain) Exists(a api.Address) bool {
	_, ok := p.now.accounts[a]
	return ok
}

func (p *plain) Empty(a api.Address) bool {
	c, ok := p.now.accounts[a]
	return !ok || c.nonce == 0 && c.balance == api.Word{} && c.code == ""
}

func (p *plain) CodeHash(a api.Address) api.Hash {
	c, ok := p.now.accounts[a]
	if !ok {
		return api.Hash{}
	}
	return hash.Keccak([]byte(c.code))
}

func (p *plain) Original(a api.Address, k api.Word) api.Word {
	if p.now.made[a] {
		return api.Word{}
	}
	return p.start[a].storage[k]
}

func (p *plain) Nonce(a api.Address) uint64                   { return p.now.accounts[a].nonce }
func (p *plain) Balance(a api.Address) api.Word               { return p.now.accounts[a].balance }
func (p *plain) Code(a api.Address) []byte                    { return []byte(p.now.accounts[a].code) }
func (p *plain) Slot(a api.Address, k api.Word) api.Word      { return p.now.accounts[a].storage[k] }
func (p *plain) Stored(a api.Address) bool                    { return len(p.now.accounts[a].storage) > 0 }
func (p *plain) Transient(a api.Address, k api.Word) api.Word { return p.now.transient[spot{a, k}] }
func (p *plain) Warm(a api.Address) bool                      { return p.now.warm[a] }
func (p *plain) Refund() uint64                               { return p.now.refund.Uint64() }
func (p *plain) Logs() []api.Log                              { return p.now.logs }
func (p *plain) Destroyed(a api.Address) bool                 { return p.now.destroyed[a] }
func (p *plain) Made(a api.Address) bool                      { return p.now.made[a] }

// write opens an account, and lets change change it.
func (p *plain) write(a api.Address, change func(c *plainAccount)) {
	p.now.touched[a] = true
	c, ok := p.now.accounts[a]
	if !ok {
		c.storage = map[api.Word]api.Word{}
	}
	change(&c)
	p.now.accounts[a] = c
}

func (p *plain) Open(a api.Address) { p.write(a, func(*plainAccount) {}) }

func (p *plain) Make(a api.Address) {
	p.write(a, func(c *plainAccount) { c.nonce, c.code, c.storage = 0, "", map[api.Word]api.Word{} })
	p.now.made[a] = true
}

func (p *plain) SetNonce(a api.Address, n uint64) {
	p.write(a, func(c *plainAccount) { c.nonce = n })
}

func (p *plain) SetBalance(a api.Address, w api.Word) {
	p.write(a, func(c *plainAccount) { c.balance = w })
}

func (p *plain) SetCode(a api.Address, code []byte) {
	p.write(a, func(c *plainAccount) { c.code = string(code) })
}

func (p *plain) SetSlot(a api.Address, k, v api.Word) {
	p.write(a, func(c *plainAccount) {
		c.storage[k] = v
		if v == (api.Word{}) {
			delete(c.storage, k)
		}
	})
}

func (p *plain) SetTransient(a api.Address, k, v api.Word) { p.now.transient[spot{a, k}] = v }
func (p *plain) Touch(a api.Address)                       { p.now.touched[a] = true }
func (p *plain) Destroy(a api.Address)                     { p.now.destroyed[a] = true }

func (p *plain) Heat(a api.Address) bool {
	was := p.now.warm[a]
	p.now.warm[a] = true
	return was
}

func (p *plain) HeatSlot(a api.Address, k api.Word) bool {
	was := p.now.hot[spot{a, k}]
	p.now.hot[spot{a, k}] = true
	return was
}

func (p *plain) AddRefund(n uint64) {
	p.now.refund.Add(p.now.refund, new(big.Int).SetUint64(n))
	if end := new(big.Int).SetUint64(most); p.now.refund.Cmp(end) > 0 {
		p.now.refund = end
	}
}

func (p *plain) SubRefund(n uint64) {
	p.now.refund.Sub(p.now.refund, new(big.Int).SetUint64(n))
	if p.now.refund.Sign() < 0 {
		p.now.refund = new(big.Int)
	}
}

func (p *plain) AddLog(l api.Log) {
	p.now.logs = append(p.now.logs, api.Log{Address: l.Address, Topics: slices.Clone(l.Topics), Data: bytes.Clone(l.Data)})
}

// bigOf is a word as a number.
func bigOf(a api.Word) *big.Int {
	n := new(big.Int)
	for i := 3; i >= 0; i-- {
		n.Lsh(n, 64).Or(n, new(big.Int).SetUint64(a[i]))
	}
	return n
}

// rootOf is the root of some accounts, put in this order, by P15.6: forms are written by hand.
func rootOf(l []api.Account) api.Hash {
	t := trie.New()
	for _, x := range l {
		storage := trie.New()
		for _, y := range x.Storage {
			if y.Value == (api.Word{}) {
				continue
			}
			key := hash.Keccak(bigOf(y.Key).FillBytes(make([]byte, 32)))
			storage.Put(key[:], text(bigOf(y.Value).Bytes()))
		}
		root, code := storage.Root(), hash.Keccak(x.Code)
		payload := slices.Concat(text(new(big.Int).SetUint64(x.Nonce).Bytes()), text(bigOf(x.Balance).Bytes()), text(root[:]), text(code[:]))
		key := hash.Keccak(x.Address[:])
		t.Put(key[:], append([]byte{0xf8, byte(len(payload))}, payload...)) // from 68 to 108 bytes
	}
	return t.Root()
}

// text is the form of a byte string of up to 55 bytes.
func text(b []byte) []byte {
	if len(b) == 1 && b[0] < 128 {
		return b
	}
	return append([]byte{byte(128 + len(b))}, b...)
}
