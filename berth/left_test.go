package berth_test

import (
	"maps"

	"berth/api"
)

// What is left on a disk when all is lost, as the document tells it.

// inode is a file, however it is called.
type inode struct {
	bytes  string
	synced bool
}

// renaming is a change of names: it makes a file, or it lets one be called
// otherwise, or it removes one.
type renaming struct {
	made     *inode
	from, to string
}

func (c renaming) apply(names map[string]*inode) {
	if c.made != nil {
		names[c.to] = c.made
		return
	}
	file := names[c.from]
	delete(names, c.from)
	if c.to != "" {
		names[c.to] = file
	}
}

// platter is a disk: the names as of now, those as of the last SyncDir, and the
// changes between.
type platter struct {
	now, safe map[string]*inode
	changes   []renaming
}

func newPlatter() *platter {
	return &platter{now: map[string]*inode{}, safe: map[string]*inode{}}
}

func (p *platter) rename(c renaming) {
	c.apply(p.now)
	p.changes = append(p.changes, c)
}

func (p *platter) do(op api.Op) {
	file := p.now[op.Name]
	switch {
	case op.Kind == api.SyncDir:
		p.safe, p.changes = maps.Clone(p.now), nil
	case op.Kind == api.Write && file == nil:
		p.rename(renaming{made: &inode{bytes: op.Bytes}, to: op.Name})
	case op.Kind == api.Write:
		file.bytes, file.synced = op.Bytes, false
	case file == nil:
	case op.Kind == api.Sync:
		file.synced = true
	case op.Kind == api.Rename && op.Name != op.To:
		p.rename(renaming{from: op.Name, to: op.To})
	case op.Kind == api.Remove:
		p.rename(renaming{from: op.Name})
	}
}

// leftover is what may be left of a file: its bytes, if it is there.
type leftover struct {
	text  string
	there bool
}

// left lists all that may be left of the file of a name.
func (p *platter) left(name string) []leftover {
	var all []leftover
	names := maps.Clone(p.safe)
	for i := 0; ; i++ {
		all = append(all, contents(names[name])...)
		if i == len(p.changes) {
			return all
		}
		p.changes[i].apply(names)
	}
}

func contents(file *inode) []leftover {
	if file == nil {
		return []leftover{{}}
	}
	all := []leftover{{file.bytes, true}}
	for i := range file.bytes {
		if !file.synced {
			all = append(all, leftover{file.bytes[:i], true})
		}
	}
	return all
}
