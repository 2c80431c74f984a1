package berth_test

import (
	"maps"
	"slices"

	"berth/api"
)

// What is left on a disk when all is lost, as the document tells it.

// inode is a file, however it is called.
type inode struct {
	bytes  string
	synced bool
}

// renaming is a change of names: it makes a file, or it lets one be called
// otherwise, or it removes one.
type renaming struct {
	made     *inode
	from, to string
}

func (c renaming) apply(names map[string]*inode) {
	if c.made != nil {
		names[c.to] = c.made
		return
	}
	file := names[c.from]
	delete(names, c.from)
	if c.to != "" {
		names[c.to] = file
	}
}

// platter is a disk: the names as of now, those as of the last SyncDir, and the
// changes between.
type platter struct {
	now, safe map[string]*inode
	changes   []renaming
}

// platterOf is a disk that has these files, synced as their names are.
func platterOf(files []api.File) *platter {
	names := map[string]*inode{}
	for _, file := range files {
		names[file.Name] = &inode{file.Bytes, true}
	}
	return &platter{now: names, safe: maps.Clone(names)}
}

func (p *platter) rename(c renaming) {
	c.apply(p.now)
	p.changes = append(p.changes, c)
}

func (p *platter) do(op api.Op) {
	file := p.now[op.Name]
	switch {
	case op.Kind == api.SyncDir:
		p.safe, p.changes = maps.Clone(p.now), nil
	case op.Kind == api.Write && file == nil:
		p.rename(renaming{made: &inode{bytes: op.Bytes}, to: op.Name})
	case op.Kind == api.Write:
		file.bytes, file.synced = op.Bytes, false
	case file == nil:
	case op.Kind == api.Sync:
		file.synced = true
	case op.Kind == api.Rename && op.Name != op.To:
		p.rename(renaming{from: op.Name, to: op.To})
	case op.Kind == api.Remove:
		p.rename(renaming{from: op.Name})
	}
}

// left lists all that may be left of the disk, each a list of files.
func (p *platter) left() [][]api.File {
	var all [][]api.File
	names := maps.Clone(p.safe)
	for i := 0; ; i++ {
		all = append(all, contents(names)...)
		if i == len(p.changes) {
			return all
		}
		p.changes[i].apply(names)
	}
}

// contents lists all that may be left of the files of these names.
func contents(names map[string]*inode) [][]api.File {
	all := [][]api.File{nil}
	for _, name := range slices.Sorted(maps.Keys(names)) {
		var longer [][]api.File
		for _, files := range all {
			for _, bytes := range names[name].left() {
				file := api.File{Name: name, Bytes: bytes}
				longer = append(longer, append(slices.Clone(files), file))
			}
		}
		all = longer
	}
	return all
}

func (file *inode) left() []string {
	all := []string{file.bytes}
	for i := range len(file.bytes) {
		if !file.synced {
			all = append(all, file.bytes[:i])
		}
	}
	return all
}
