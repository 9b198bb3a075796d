"""Point 23: answers, plain ones, those of a net, those of a list of partings."""

import itertools
import unittest

from arrowfind.answers import Answers, ListAnswers, NetAnswers
from arrowfind.errors import NoName, NoWord, Twice, WrongSize
from arrowfind.nets import net_made
from arrowfind.partings import are_parted
from tests.helper import NAMES, Case, every_net, lists_of, others_of, slow_partings, thrown_nets

WORDS = ["c", "a", "d", "b"]
CORNER = net_made(WORDS, [("a", "b"), ("c", "b"), ("b", "d")])


def all_asks(names):
    """Each two names, either way round, with each list of others, in each order."""
    for one, other in itertools.permutations(names, 2):
        for some in lists_of([name for name in names if name not in (one, other)]):
            for held in itertools.permutations(some):
                yield one, other, list(held)


def each_kind():
    return [Answers(WORDS), NetAnswers(CORNER), ListAnswers(WORDS, [("a", "c", [])]), ListAnswers(WORDS, [])]


class PlainTest(Case):
    def test_nothing_is_parted(self):
        for size in (1, 2, 3, 4):
            answers = Answers(NAMES[:size])
            for ask in all_asks(NAMES[:size]):
                self.assertIs(answers.parted(*ask), False)

    def test_up_to_eight_names(self):
        self.assertIs(Answers(NAMES).parted(NAMES[7], NAMES[0], NAMES[1:7]), False)


class NetTest(Case):
    def test_what_small_nets_say(self):
        for net in itertools.chain(every_net(1), every_net(2), every_net(3), list(every_net(4))[::5]):
            told = slow_partings(net)
            answers = NetAnswers(net)
            for one, other in itertools.combinations(net[0], 2):
                for held in lists_of(others_of(net, one, other)):
                    truth = (one, other, tuple(held)) in told
                    self.assertIs(answers.parted(one, other, held), truth)
                    self.assertIs(answers.parted(other, one, held[::-1]), truth)

    def test_what_are_parted_says_of_larger_nets(self):
        for place, net in enumerate(thrown_nets(each=3)):
            answers = NetAnswers(net)
            for one, other in itertools.permutations(net[0], 2):
                for held in list(lists_of(others_of(net, one, other)))[place % 5::5]:
                    self.assertIs(answers.parted(one, other, held), are_parted(net, one, other, held))

    def test_each_net_by_itself(self):
        first = NetAnswers(net_made(["a", "b"], [("a", "b")]))
        second = NetAnswers(net_made(["a", "b"], []))
        self.assertEqual([each.parted("a", "b", []) for each in (first, second, first)], [False, True, False])


class ListTest(Case):
    def says_just(self, names, partings, told):
        answers = ListAnswers(names, partings)
        for one, other, held in all_asks(names):
            truth = any({one, other} == {*pair} and set(held) == set(some) for *pair, some in told)
            self.assertIs(answers.parted(one, other, held), truth)

    def test_just_its_partings(self):
        told = [("a", "c", []), ("d", "a", ["b"]), ("c", "d", ["b", "a"])]
        self.says_just(WORDS, told, told)

    def test_an_empty_list(self):
        self.says_just(WORDS, [], [])

    def test_each_parting_by_itself_either_way_round_and_in_any_order(self):
        for one, other, held in all_asks(WORDS):
            self.says_just(WORDS, [(one, other, held)], [(other, one, held[::-1])])

    def test_told_more_often(self):
        told = [("c", "d", ["b", "a"])]
        for often in (
            [("c", "d", ["b", "a"]), ("c", "d", ["b", "a"])],
            [("c", "d", ["b", "a"]), ("d", "c", ["b", "a"])],
            [("d", "c", ["a", "b"]), ("c", "d", ["b", "a"]), ("c", "d", ["a", "b"])],
        ):
            self.says_just(WORDS, often, told)

    def test_all_that_a_net_says(self):
        for net in itertools.chain(every_net(3), list(every_net(4))[::40]):
            told = [(one, other, list(held)) for one, other, held in sorted(slow_partings(net))]
            answers = ListAnswers(list(net[0]), told)
            for ask in all_asks(net[0]):
                self.assertIs(answers.parted(*ask), are_parted(net, *ask))

    def test_what_no_net_says(self):
        self.says_just(["a", "b", "c"], [("a", "b", ["c"]), ("b", "c", [])], [("a", "b", ["c"]), ("b", "c", [])])

    def test_eight_names_and_two_thousand_partings(self):
        asks = [
            (one, other, some)
            for one, other in itertools.combinations(NAMES, 2)
            for some in lists_of([name for name in NAMES if name not in (one, other)])
        ]
        self.assertEqual(len(asks), 1792)
        answers = ListAnswers(NAMES, asks[::2] + asks[:1000:2])
        self.assertEqual([answers.parted(*ask) for ask in asks], [True, False] * 896)


class FieldsTest(Case):
    def test_names_as_a_tuple(self):
        for answers in each_kind():
            self.assertEqual(answers.names, ("c", "a", "d", "b"))
            self.assertIs(type(answers.names), tuple)

    def test_both_are_answers(self):
        self.assertTrue(issubclass(NetAnswers, Answers))
        self.assertTrue(issubclass(ListAnswers, Answers))
        for answers in each_kind():
            self.assertIsInstance(answers, Answers)

    def test_lists_handed_in_emptied_behind_the_call(self):
        names = list(WORDS)
        held = ["b", "a"]
        partings = [("c", "d", held), ("a", "c", [])]
        answers = ListAnswers(names, partings)
        plain = Answers(names)
        for some in (names, held, partings):
            some.clear()
        self.assertEqual((answers.names, plain.names), (tuple(WORDS), tuple(WORDS)))
        self.assertIs(answers.parted("d", "c", ["a", "b"]), True)
        self.assertIs(answers.parted("a", "c", []), True)
        self.assertIs(answers.parted("d", "c", []), False)
        self.assertIs(plain.parted("a", "b", ["c", "d"]), False)

    def test_held_ones_grown_behind_the_call(self):
        held = ["b"]
        partings = [("c", "d", held)]
        answers = ListAnswers(WORDS, partings)
        held.append("a")
        partings.append(("a", "b", []))
        self.assertIs(answers.parted("c", "d", ["b"]), True)
        self.assertIs(answers.parted("c", "d", ["a", "b"]), False)
        self.assertIs(answers.parted("a", "b", []), False)

    def test_lists_handed_in_stay(self):
        names = list(WORDS)
        partings = [("d", "c", ["b", "a"]), ("c", "a", [])]
        held = ["b", "a"]
        for answers in (ListAnswers(names, partings), Answers(names), NetAnswers(CORNER)):
            answers.parted("d", "c", held)
        self.assertEqual((names, held), (WORDS, ["b", "a"]))
        self.assertEqual(partings, [("d", "c", ["b", "a"]), ("c", "a", [])])

    def test_whatever_was_asked_before(self):
        for answers in each_kind():
            asks = list(all_asks(WORDS))
            first = [answers.parted(*ask) for ask in asks]
            self.refused(NoName, answers.parted, "a", "x", [])
            self.assertEqual([answers.parted(*ask) for ask in reversed(asks)], first[::-1])


class WrongNamesTest(Case):
    def refused_names(self, error, names):
        self.refused(error, Answers, names)
        for partings in ([], [("x", "y", [])], [("a", "a", ["a"])]):
            self.refused(error, ListAnswers, names, partings)
        self.refused(error, NetAnswers, (tuple(names), ()))

    def test_sizes(self):
        self.refused_names(WrongSize, [])
        self.refused_names(WrongSize, NAMES + ["i"])
        self.refused_names(WrongSize, ["A"] * 9)
        for size in range(1, 9):
            self.assertEqual(Answers(NAMES[:size]).names, tuple(NAMES[:size]))
            self.assertEqual(ListAnswers(NAMES[:size], []).names, tuple(NAMES[:size]))

    def test_no_words(self):
        for text in ("", "A", "a1", "a b", "ninewords", "a\n", " ", "\t"):
            self.refused_names(NoWord, [text])
            self.refused_names(NoWord, ["a", "b", text])

    def test_names_twice(self):
        self.refused_names(Twice, ["a", "a"])
        self.refused_names(Twice, ["a", "b", "c", "b"])

    def test_the_first_wrong_name_decides(self):
        self.refused_names(Twice, ["a", "a", "A"])
        self.refused_names(NoWord, ["a", "A", "a"])
        self.refused_names(NoWord, ["A", "A"])


class WrongPartingsTest(Case):
    def test_strange_names(self):
        for parting in (("x", "a", []), ("a", "x", []), ("a", "b", ["x"]), ("a", "b", ["c", "x"]), ("x", "x", ["x"])):
            self.refused(NoName, ListAnswers, WORDS, [parting])
            self.refused(NoName, ListAnswers, WORDS, [("a", "b", []), parting])

    def test_names_twice(self):
        for parting in (("a", "a", []), ("a", "b", ["a"]), ("a", "b", ["c", "b"]), ("a", "b", ["c", "c"])):
            self.refused(Twice, ListAnswers, WORDS, [parting])
            self.refused(Twice, ListAnswers, WORDS, [("a", "b", []), parting])

    def test_strange_names_go_ahead_within_one(self):
        for parting in (("a", "a", ["x"]), ("a", "b", ["b", "x"]), ("x", "x", []), ("a", "b", ["c", "c", "x"])):
            self.refused(NoName, ListAnswers, WORDS, [parting])

    def test_the_first_wrong_parting_decides(self):
        self.refused(Twice, ListAnswers, WORDS, [("a", "a", []), ("x", "b", [])])
        self.refused(NoName, ListAnswers, WORDS, [("x", "b", []), ("a", "a", [])])
        self.refused(Twice, ListAnswers, WORDS, [("a", "b", ["c"]), ("a", "b", ["a"]), ("a", "b", ["x"])])


class WrongAsksTest(Case):
    def test_strange_names(self):
        for answers in each_kind():
            for ask in (("x", "a", []), ("a", "x", []), ("a", "b", ["x"]), ("a", "b", ["c", "x"]), ("A", "b", [])):
                self.refused(NoName, answers.parted, *ask)

    def test_names_twice(self):
        for answers in each_kind():
            for ask in (("a", "a", []), ("a", "b", ["a"]), ("a", "b", ["c", "b"]), ("a", "b", ["c", "c"])):
                self.refused(Twice, answers.parted, *ask)

    def test_strange_names_go_ahead(self):
        for answers in each_kind():
            for ask in (("a", "a", ["x"]), ("a", "b", ["b", "x"]), ("x", "x", []), ("a", "b", ["c", "c", "x"])):
                self.refused(NoName, answers.parted, *ask)

    def test_one_name_alone(self):
        for answers in (Answers(["a"]), NetAnswers(net_made(["a"], [])), ListAnswers(["a"], [])):
            self.refused(Twice, answers.parted, "a", "a", [])
            self.refused(NoName, answers.parted, "a", "b", [])


if __name__ == "__main__":
    unittest.main()
